/-
 Layer 12: the program's reader: what a call leaves; unless, got, signed, plain. Conditions: those written at each fact.
-/
import Derived.Test.YtcfidimnbamnkaaGreatKitW
import Derived.Maps.RangeWalk
import Derived.Test.YtcfidimnbamnkaaGreatSQ
import Derived.Test.YtcfidimnbamnkaaGreatKitS
import Derived.Test.YtcfidimnbamnkaaGreatVA
import Derived.Deep.QuietTactic
import Derived.BigQuiet
import Derived.Test.YtcfidimnbamnkaaGreatSGA
import Derived.Test.YtcfidimnbamnkaaGreatSgF
import Derived.RegionTactic
import Derived.ChangeAlike
import Derived.BigRegion
namespace Go.Proofs.YtcfidimnbamnkaaGreat.P12
open Go.RowKit Go.Shelf Go.Proofs.YtcfidimnbamnkaaGreat.P2 Go.Proofs.YtcfidimnbamnkaaGreat.P7 Go.Proofs.YtcfidimnbamnkaaGreat.P11

abbrev rd2 (B : Nat) (bv : Value) (a : Int) : List (Nat × Nat × Value) := [(B, 0, bv), (B, 1, .int .i64 a)]
theorem rput {B o : Nat} {a : Value} {W : World} {L : List (Nat × Nat × Value)} (ha : W.cell? ⟨B, o, none⟩ = some a) (h : Cells L W) (u : Value) : Fr (fun k => k = B) (fun k => k = B) W (W.setCell ⟨B, o, none⟩ u) ∧ Cells (updL B o u L) (W.setCell ⟨B, o, none⟩ u) :=
 ⟨⟨rfl, rfl, rfl, by simp [World.setCell], fun _ _ hx => Below.heap_setCell W ⟨B, o, none⟩ u _ hx, fun _ _ h => h⟩, h.upd ha⟩
structure At (W0 : World) (B : Nat) (bv : Value) (l : List Int) (a : Int) (W : World) : Prop where
 low : W0.heap.size ≤ B
 rd : Reads .u8 W0 bv l
 blw : Below W0.heap.size W0 W
 cs : Cells (rd2 B bv a) W
theorem At.fr {W0 W W' : World} {B : Nat} {bv : Value} {l : List Int} {a a' : Int} (h : At W0 B bv l a W) (hf : Fr (fun k => k = B) (fun k => k = B) W W') (hc : Cells (rd2 B bv a') W') : At W0 B bv l a' W' :=
 ⟨h.low, h.rd, h.blw.trans (hf.below h.blw.size (fun _ hk => hk ▸ h.low)), hc⟩
theorem At.next {W0 W W' : World} {B : Nat} {bv : Value} {l : List Int} {a : Int} (h : At W0 B bv l a W) (hb : Below W.heap.size W W') : At W0 B bv l a W' := h.fr (Fr.of hb) (h.cs.next hb)
theorem At.reads {W0 W : World} {B : Nat} {bv : Value} {l : List Int} {a : Int} (h : At W0 B bv l a W) : Reads .u8 W bv l := h.rd.below h.blw
def Rds {α : Type} (W0 : World) (B : Nat) (bv : Value) (l : List Int) (W : World) (G : α → Ending → World → Prop) (r : Except Int (α × Int)) (e : Ending) (w' : World) : Prop :=
 Fr (fun k => k = B) (fun k => k = B) W w' ∧ match r with
  | .ok (x, a) => G x e w' ∧ At W0 B bv l a w'
  | .error c => e = thrown c
theorem Rds.ok {α : Type} {W0 : World} {B : Nat} {bv : Value} {l : List Int} {W : World} {G : α → Ending → World → Prop} {r : Except Int (α × Int)} {e : Ending} {w' : World} {x : α} {a : Int} (hr : r = .ok (x, a)) (hf : Fr (fun k => k = B) (fun k => k = B) W w') (hg : G x e w') (ha : At W0 B bv l a w') : Rds W0 B bv l W G r e w' := by
 subst hr
 exact ⟨hf, hg, ha⟩
theorem Rds.err {α : Type} {W0 : World} {B : Nat} {bv : Value} {l : List Int} {W : World} {G : α → Ending → World → Prop} {r : Except Int (α × Int)} {w' : World} {c : Int} (hr : r = .error c) (hf : Fr (fun k => k = B) (fun k => k = B) W w') : Rds W0 B bv l W G r (thrown c) w' := by
 subst hr
 exact ⟨hf, rfl⟩
theorem Rds.ways {α : Type} {W0 : World} {B : Nat} {bv : Value} {l : List Int} {W : World} {G : α → Ending → World → Prop} {r : Except Int (α × Int)} {e : Ending} {w' : World} (h : Rds W0 B bv l W G r e w') : Fr (fun k => k = B) (fun k => k = B) W w' ∧ ((∃ c, r = .error c ∧ e = thrown c) ∨ ∃ x a, r = .ok (x, a) ∧ G x e w' ∧ At W0 B bv l a w') := by
 obtain ⟨hf, h⟩ := h
 cases r with
 | error c => exact ⟨hf, .inl ⟨c, rfl, h⟩⟩
 | ok p => exact ⟨hf, .inr ⟨p.1, p.2, rfl, h⟩⟩
abbrev isI (z : Int) (e : Ending) (_ : World) : Prop := e = .returned (.int .i64 z)
abbrev isU (z : Int) (e : Ending) (_ : World) : Prop := e = .returned (.int .u64 z)
def gS (l : List Int) (a : Int) : Except Int (Int × Int) := if gotE l a = 0 then .ok (unz (gotN l a), gotP l a) else .error (gotE l a)
def gN (l : List Int) (a : Int) : Except Int (Int × Int) := if gotE l a = 0 then .ok (gotN l a, gotP l a) else .error (gotE l a)
def gU (l : List Int) (a lo hi : Int) : Except Int (Int × Int) := if gotE l a = 0 then (if lo ≤ gotN l a ∧ gotN l a ≤ hi then .ok (gotN l a, gotP l a) else .error 7) else .error (gotE l a)
theorem unless_true (code : Int) (w : World) : Calls Tryz.prog 158 #[.bool true, .int .i64 code] w (Ret w (.tuple #[])) := by
 go_enter Tryz.func158, Tryz.ntmps158
 go_wp2
 go_end0
 exact ⟨rfl, by go_grown⟩
theorem unless_false (code : Int) (w : World) : Calls Tryz.prog 158 #[.bool false, .int .i64 code] w (fun e w' => e = thrown code ∧ Below w.heap.size w w') := by
 go_enter Tryz.func158, Tryz.ntmps158
 go_wp2
 exact ⟨rfl, rfl, by go_grown⟩
set_option maxRecDepth 100000 in
set_option maxHeartbeats 2000000 in
theorem gotS_any (l : List Int) (hl : l.length ≤ 1000000) (hb : ∀ z ∈ l, 0 ≤ z ∧ z < 256) (W0 : World) (B : Nat) (bv : Value) (a : Int) (W : World) (h : At W0 B bv l a W) :
  Calls Tryz.prog 215 #[.pointer (some ⟨B, 0, none⟩), .func (.func 216) #[] #[]] W (Rds W0 B bv l W isI (gS l a)) := by
 have NB := Lib.hid (fun W' (hr : Reads .u8 W' bv l) => get_any l hl hb a bv W' hr)
 have UT := Lib.hid (unless_true 0)
 have UF := Lib.hid (unless_false (gotE l a))
 have hr := h.reads
 have HA := Lib.hid h
 have h0 := h.cs
 obtain ⟨⟨kz0, kc0, kf0⟩, ⟨kz1, kc1, kf1⟩, _⟩ := h.cs
 unfold Rds gS
 generalize gotE l a = ge at *
 generalize unz (gotN l a) = gn at *
 generalize gotP l a = gp at *
 obtain ⟨Ab, cb, rfl, _, _⟩ := id hr
 have hK : Keeps W [(B, 0, .slice Ab l.length cb), (B, 1, .int .i64 a)] W := ⟨Below.refl _ _, h0⟩
 clear h
 go_enter Tryz.func215, Tryz.ntmps215
 go_upto_region 1 with (fail)
 refine region_keeps (w0 := W) (L := [(B, 0, .slice Ab l.length cb), (B, 1, .int .i64 a)]) (by kernel_rfl) hK (fun hHeld0 => ?_)
 refine tv 0 9 rfl rfl ?_
 try go_frame
 refine tv 1 10 rfl rfl ?_
 try go_frame
 refine tv 2 11 rfl rfl ?_
 try go_frame
 refine tv 3 12 rfl rfl ?_
 try go_frame
 refine tv 4 13 rfl rfl ?_
 try go_frame
 refine tk 5 14 rfl rfl ?_ ?_ ?_
 rotate_left
 ·intro wq hSw; obtain ⟨⟨qz0, qc0, qf0⟩, ⟨qz1, qc1, qf1⟩, _⟩ := hSw.2; go_simp; (try with_reducible rfl)
 try go_frame
 refine tv 6 15 rfl rfl ?_
 try go_frame
 refine tv 7 16 rfl rfl ?_
 try go_frame
 refine tv 8 17 rfl rfl ?_
 try go_frame
 refine tv 9 18 rfl rfl ?_
 try go_frame
 refine tk 10 19 rfl rfl ?_ ?_ ?_
 rotate_left
 ·intro wq hSw; obtain ⟨⟨qz0, qc0, qf0⟩, ⟨qz1, qc1, qf1⟩, _⟩ := hSw.2; go_simp; (try with_reducible rfl)
 try go_frame
 refine ty [11] ?_
 refine AllReadyH.cons rfl (fun K hK => ?_) AllReadyH.nil
 go_simp
 ((with_reducible refine (NB.out _ (hr.below (by first | with_reducible exact kbel hHeld0 | with_reducible exact kbel hHeld1))).mono ?_); rintro e w2 ⟨rfl, hb⟩)
 refine hK.out _ _ (hHeld0.next hb) (fun hHeld1 => ?_)
 clear hK K; try clear hb
 try go_frame
 refine tv 12 8 rfl rfl ?_
 try go_frame
 refine tv 13 21 rfl rfl ?_
 try go_frame
 refine tv 14 22 rfl rfl ?_
 try go_frame
 refine tv 15 23 rfl rfl ?_
 try go_frame
 refine tv 16 5 rfl rfl ?_
 try go_frame
 refine tv 17 6 rfl rfl ?_
 try go_frame
 refine tv 18 7 rfl rfl ?_
 try go_frame
 refine wpAnyH_done (by kernel_rfl) ?_ _
 have hHeld := hHeld1
 obtain ⟨⟨kz0, kc0, kf0⟩, ⟨kz1, kc1, kf1⟩, _⟩ := hHeld.2
 all_goals
  have hF := Fr.of (X := fun k => k = B) hHeld.1
  have hC := hHeld.2
  clear hHeld hHeld0 hHeld1 hK NB h0 hr
  by_cases g : ge = 0
  ·subst g
   go_wp2_with fail
   refine (UT.out _).mono ?_
   rintro e w3 ⟨rfl, hb3⟩
   replace hF := hF.next hb3
   replace hC := hC.next hb3
   obtain ⟨⟨kz0, kc0, kf0⟩, ⟨kz1, kc1, kf1⟩, _⟩ := id hC
   have p1 := rput (o := 1) kc1 hC (.int .i64 gp)
   clear hC
   go_wp2_with fail
   go_returns
   have hF2 := hF.trans p1.1
   exact ⟨hF2, rfl, HA.out.fr hF2 (by simpa [updL] using p1.2)⟩
  ·have t : (ge == 0) = false := by simpa using g
   go_wp2_with fail
   refine (UF.out _).mono ?_
   rintro e w3 ⟨rfl, hb3⟩
   go_wp2_with fail
   exact ⟨rfl, hF.next hb3, rfl⟩
set_option maxRecDepth 100000 in
set_option maxHeartbeats 2000000 in
theorem gotU_any (l : List Int) (hl : l.length ≤ 1000000) (hb : ∀ z ∈ l, 0 ≤ z ∧ z < 256) (W0 : World) (B : Nat) (bv : Value) (a : Int) (W : World) (h : At W0 B bv l a W) :
  Calls Tryz.prog 189 #[.pointer (some ⟨B, 0, none⟩), .func (.func 190) #[] #[]] W (Rds W0 B bv l W isU (gN l a)) := by
 have NB := Lib.hid (fun W' (hr : Reads .u8 W' bv l) => getU_any l hl hb a bv W' hr)
 have UT := Lib.hid (unless_true 0)
 have UF := Lib.hid (unless_false (gotE l a))
 have hr := h.reads
 have HA := Lib.hid h
 have h0 := h.cs
 obtain ⟨⟨kz0, kc0, kf0⟩, ⟨kz1, kc1, kf1⟩, _⟩ := h.cs
 unfold Rds gN
 generalize gotE l a = ge at *
 generalize gotN l a = gn at *
 generalize gotP l a = gp at *
 obtain ⟨Ab, cb, rfl, _, _⟩ := id hr
 have hK : Keeps W [(B, 0, .slice Ab l.length cb), (B, 1, .int .i64 a)] W := ⟨Below.refl _ _, h0⟩
 clear h
 go_enter Tryz.func189, Tryz.ntmps189
 go_upto_region 1 with (fail)
 refine region_keeps (w0 := W) (L := [(B, 0, .slice Ab l.length cb), (B, 1, .int .i64 a)]) (by kernel_rfl) hK (fun hHeld0 => ?_)
 refine tv 0 9 rfl rfl ?_
 try go_frame
 refine tv 1 10 rfl rfl ?_
 try go_frame
 refine tv 2 11 rfl rfl ?_
 try go_frame
 refine tv 3 12 rfl rfl ?_
 try go_frame
 refine tv 4 13 rfl rfl ?_
 try go_frame
 refine tk 5 14 rfl rfl ?_ ?_ ?_
 rotate_left
 ·intro wq hSw; obtain ⟨⟨qz0, qc0, qf0⟩, ⟨qz1, qc1, qf1⟩, _⟩ := hSw.2; go_simp; (try with_reducible rfl)
 try go_frame
 refine tv 6 15 rfl rfl ?_
 try go_frame
 refine tv 7 16 rfl rfl ?_
 try go_frame
 refine tv 8 17 rfl rfl ?_
 try go_frame
 refine tv 9 18 rfl rfl ?_
 try go_frame
 refine tk 10 19 rfl rfl ?_ ?_ ?_
 rotate_left
 ·intro wq hSw; obtain ⟨⟨qz0, qc0, qf0⟩, ⟨qz1, qc1, qf1⟩, _⟩ := hSw.2; go_simp; (try with_reducible rfl)
 try go_frame
 refine ty [11] ?_
 refine AllReadyH.cons rfl (fun K hK => ?_) AllReadyH.nil
 go_simp
 ((with_reducible refine (NB.out _ (hr.below (by first | with_reducible exact kbel hHeld0 | with_reducible exact kbel hHeld1))).mono ?_); rintro e w2 ⟨rfl, hb⟩)
 refine hK.out _ _ (hHeld0.next hb) (fun hHeld1 => ?_)
 clear hK K; try clear hb
 try go_frame
 refine tv 12 8 rfl rfl ?_
 try go_frame
 refine tv 13 21 rfl rfl ?_
 try go_frame
 refine tv 14 22 rfl rfl ?_
 try go_frame
 refine tv 15 23 rfl rfl ?_
 try go_frame
 refine tv 16 5 rfl rfl ?_
 try go_frame
 refine tv 17 6 rfl rfl ?_
 try go_frame
 refine tv 18 7 rfl rfl ?_
 try go_frame
 refine wpAnyH_done (by kernel_rfl) ?_ _
 have hHeld := hHeld1
 obtain ⟨⟨kz0, kc0, kf0⟩, ⟨kz1, kc1, kf1⟩, _⟩ := hHeld.2
 all_goals
  have hF := Fr.of (X := fun k => k = B) hHeld.1
  have hC := hHeld.2
  clear hHeld hHeld0 hHeld1 hK NB h0 hr
  by_cases g : ge = 0
  ·subst g
   go_wp2_with fail
   refine (UT.out _).mono ?_
   rintro e w3 ⟨rfl, hb3⟩
   replace hF := hF.next hb3
   replace hC := hC.next hb3
   obtain ⟨⟨kz0, kc0, kf0⟩, ⟨kz1, kc1, kf1⟩, _⟩ := id hC
   have p1 := rput (o := 1) kc1 hC (.int .i64 gp)
   clear hC
   go_wp2_with fail
   go_returns
   have hF2 := hF.trans p1.1
   exact ⟨hF2, rfl, HA.out.fr hF2 (by simpa [updL] using p1.2)⟩
  ·have t : (ge == 0) = false := by simpa using g
   go_wp2_with fail
   refine (UF.out _).mono ?_
   rintro e w3 ⟨rfl, hb3⟩
   go_wp2_with fail
   exact ⟨rfl, hF.next hb3, rfl⟩
set_option maxRecDepth 100000 in
theorem signed_any (l : List Int) (hl : l.length ≤ 1000000) (hb : ∀ z ∈ l, 0 ≤ z ∧ z < 256) (W0 : World) (B : Nat) (bv : Value) (a : Int) (W : World) (h : At W0 B bv l a W) :
  Calls Tryz.prog 192 #[.pointer (some ⟨B, 0, none⟩)] W (Rds W0 B bv l W isI (gS l a)) := by
 have GS := Lib.hid (gotS_any l hl hb W0 B bv a W h)
 clear h
 go_enter Tryz.func192, Tryz.ntmps192
 go_wp2_with fail
 refine GS.out.mono ?_
 rintro e w1 ⟨hf, hq⟩
 unfold Rds
 cases hg : gS l a with
 | error c =>
  rw [hg] at hq
  obtain rfl : e = thrown c := hq
  go_wp2_with fail
  exact ⟨rfl, hf, rfl⟩
 | ok p =>
  obtain ⟨x, a1⟩ := p
  rw [hg] at hq
  obtain ⟨rfl, hA⟩ := hq
  go_wp2_with fail
  go_returns
  exact ⟨hf, by rw [hg]; exact ⟨rfl, hA⟩⟩
set_option maxRecDepth 100000 in
theorem plain_any (l : List Int) (hl : l.length ≤ 1000000) (hb : ∀ z ∈ l, 0 ≤ z ∧ z < 256) (W0 : World) (B : Nat) (bv : Value) (a : Int) (W : World) (h : At W0 B bv l a W) (lo hi : Int) (hhi : hi ≤ 9223372036854775807) :
  Calls Tryz.prog 154 #[.pointer (some ⟨B, 0, none⟩), .int .u64 lo, .int .u64 hi] W (Rds W0 B bv l W isI (gU l a lo hi)) := by
 have GS := Lib.hid (gotU_any l hl hb W0 B bv a W h)
 have UT := Lib.hid (unless_true 7)
 have UF := Lib.hid (unless_false 7)
 have hn := got_range hb a
 clear h
 unfold Rds gU
 unfold Rds gN at GS
 generalize gotN l a = gn at *
 go_enter Tryz.func154, Tryz.ntmps154
 go_wp2_with fail
 refine GS.out.mono ?_
 rintro e w1 ⟨hf, hq⟩
 clear GS
 by_cases g : gotE l a = 0
 ·rw [if_pos g] at hq
  obtain ⟨rfl, hA⟩ := hq
  by_cases g1 : lo ≤ gn
  ·cases g2 : decide (gn ≤ hi)
   ·have g3 : ¬ (lo ≤ gn ∧ gn ≤ hi) := fun h => by simp at g2; omega
    go_wp2_with fail
    refine (UF.out _).mono ?_
    rintro e w3 ⟨rfl, hb3⟩
    go_wp2_with fail
    exact ⟨rfl, hf.next hb3, rfl⟩
   ·have g3 : gn ≤ hi := by simpa using g2
    have e1 : IntKind.i64.wrap gn = gn := iwrap (by omega) (by omega)
    go_wp2_with fail
    refine (UT.out _).mono ?_
    rintro e w3 ⟨rfl, hb3⟩
    go_wp2_with fail
    go_returns
    exact ⟨hf.next hb3, by simp, hA.next hb3⟩
  ·have g3 : ¬ (lo ≤ gn ∧ gn ≤ hi) := fun h => g1 h.1
   go_wp2_with fail
   refine (UF.out _).mono ?_
   rintro e w3 ⟨rfl, hb3⟩
   go_wp2_with fail
   exact ⟨rfl, hf.next hb3, rfl⟩
 ·rw [if_neg g] at hq
  obtain rfl : e = thrown (gotE l a) := hq
  go_wp2_with fail
  exact ⟨rfl, hf, rfl⟩
end Go.Proofs.YtcfidimnbamnkaaGreat.P12

/-
 Layer 12: the program's reader: the kind, a run. Conditions: those written at each fact.
-/
namespace Go.Proofs.YtcfidimnbamnkaaGreat.P12
open Go.RowKit Go.Shelf Go.Proofs.YtcfidimnbamnkaaGreat.P2 Go.Proofs.YtcfidimnbamnkaaGreat.P7 Go.Proofs.YtcfidimnbamnkaaGreat.P11

def kindS (l : List Int) (j : Nat) : Except Int (Int × Int) := match l[j]? with
 | none => .error 6
 | some k => if 1 ≤ k ∧ k ≤ 4 then .ok (k, (j : Int) + 1) else .error 7
set_option maxRecDepth 100000 in
set_option maxHeartbeats 2000000 in
theorem kind_any (l : List Int) (hl : l.length ≤ 1000000) (hb : ∀ z ∈ l, 0 ≤ z ∧ z < 256) (W0 : World) (B : Nat) (bv : Value) (j : Nat) (hj : j ≤ l.length) (W : World) (h : At W0 B bv l (j : Int) W) :
  Calls Tryz.prog 153 #[.pointer (some ⟨B, 0, none⟩)] W (Rds W0 B bv l W isI (kindS l j)) := by
 have UT := Lib.hid (unless_true 7)
 have UF := Lib.hid (unless_false 7)
 have UT6 := Lib.hid (unless_true 6)
 have UF6 := Lib.hid (unless_false 6)
 have hr := h.reads
 have HA := Lib.hid h
 have h0 := h.cs
 obtain ⟨Ab, cb, rfl, hc, hk⟩ := id hr
 clear h
 by_cases hlt : j < l.length
 ·obtain ⟨z, hz⟩ : ∃ z, l[j]? = some z := ⟨_, List.getElem?_eq_getElem hlt⟩
  obtain ⟨bb, off, rfl, hbw, c1⟩ := hk j z hz
  have hzb := hb z (List.mem_of_getElem? hz)
  have i1 : (j : Int) < (l.length : Int) := by omega
  have i0 : (0 : Int) ≤ (j : Int) := by omega
  have e1 : wrap64 ((j : Int) + 1) = (j : Int) + 1 := i64_keeps (by omega) (by omega)
  have HE : Hid (kindS l j = if 1 ≤ z ∧ z ≤ 4 then .ok (z, (j : Int) + 1) else .error 7) := Lib.hid (by unfold kindS; rw [hz])
  have ez : IntKind.i64.wrap z = z := iwrap (by omega) (by omega)
  have hK : Keeps W [(B, 0, .slice (some ⟨bb, off, none⟩) l.length cb), (B, 1, .int .i64 (j : Int))] W := ⟨Below.refl _ _, h0⟩
  have C1 := Lib.hid (show ∀ W', Below W.heap.size W W' → bb < W'.heap.size ∧ W'.cell? ⟨bb, off + j, none⟩ = some (.int .u8 z) from fun W' hB => ⟨Nat.lt_of_lt_of_le hbw hB.size, (hB.cell (p := ⟨bb, off + j, none⟩) hbw).trans c1⟩)
  clear hk hz hb hj h0 hr c1 hbw
  go_enter Tryz.func153, Tryz.ntmps153
  go_upto_region 1 with (fail)
  refine region_keeps (w0 := W) (L := [(B, 0, .slice (some ⟨bb, off, none⟩) l.length cb), (B, 1, .int .i64 (j : Int))]) (by kernel_rfl) hK (fun hHeld0 => ?_)
  refine tv 0 4 rfl rfl ?_
  try go_frame
  refine tv 1 5 rfl rfl ?_
  try go_frame
  refine tv 2 6 rfl rfl ?_
  try go_frame
  refine tv 3 7 rfl rfl ?_
  try go_frame
  refine tk 4 8 rfl rfl ?_ ?_ ?_
  rotate_left
  ·intro wq hSw; obtain ⟨⟨qz0, qc0, qf0⟩, ⟨qz1, qc1, qf1⟩, _⟩ := hSw.2; go_simp; (try with_reducible rfl)
  try go_frame
  refine tv 5 9 rfl rfl ?_
  try go_frame
  refine tv 6 10 rfl rfl ?_
  try go_frame
  refine tv 7 11 rfl rfl ?_
  try go_frame
  refine tv 8 12 rfl rfl ?_
  try go_frame
  refine tk 9 13 rfl rfl ?_ ?_ ?_
  rotate_left
  ·intro wq hSw; obtain ⟨⟨qz0, qc0, qf0⟩, ⟨qz1, qc1, qf1⟩, _⟩ := hSw.2; go_simp; (try with_reducible rfl)
  try go_frame
  refine tv 10 14 rfl rfl ?_
  try go_frame
  refine tv 11 15 rfl rfl ?_
  try go_frame
  refine ty [12] ?_
  refine AllReadyH.cons rfl (fun K hK => ?_) AllReadyH.nil
  go_simp
  ((with_reducible refine (UT6.out _).mono ?_); rintro e w2 ⟨rfl, hb⟩)
  refine hK.out _ _ (hHeld0.next hb) (fun hHeld1 => ?_)
  clear hK K; try clear hb
  try go_frame
  refine wpAnyH_done (by kernel_rfl) ?_ _
  have hHeld := hHeld1
  obtain ⟨⟨kz0, kc0, kf0⟩, ⟨kz1, kc1, kf1⟩, _⟩ := hHeld.2
  all_goals
   have hX := hHeld
   obtain ⟨d0, d1⟩ := C1.out _ hX.1
   clear hHeld hHeld0 hHeld1 hK C1
   have hF := Fr.of (X := fun k => k = B) hX.1
   have hC := hX.2
   clear hX
   by_cases g1 : 1 ≤ z
   ·cases g2 : decide (z ≤ 4)
    ·have hE : kindS l j = .error 7 := by rw [HE.out, if_neg (by simp at g2; omega)]
     go_wp2_with fail
     go_quiet (fail)
     go_wp2_with fail
     refine (UF.out _).mono ?_
     rintro e w4 ⟨rfl, hb4⟩
     have hF4 := (hF.next (below_drewN (Below.refl _ _) _)).next hb4
     go_wp2_with fail
     exact ⟨rfl, Rds.err (by first | exact hE | rfl) hF4⟩
    ·have g3 : z ≤ 4 := by simpa using g2
     have hE : kindS l j = .ok (z, (j : Int) + 1) := by rw [HE.out, if_pos ⟨g1, g3⟩]
     go_wp2_with fail
     go_quiet (fail)
     go_wp2_with fail
     refine (UT.out _).mono ?_
     rintro e w4 ⟨rfl, hb4⟩
     have hF4 := (hF.next (below_drewN (Below.refl _ _) _)).next hb4
     have hC4 := (hC.next (below_drewN (Below.refl _ _) _)).next hb4
     clear hF hC hb4 d0 d1
     obtain ⟨⟨kz0, kc0, kf0⟩, ⟨kz1, kc1, kf1⟩, _⟩ := id hC4
     have p1 := rput (o := 1) kc1 hC4 (.int .i64 ((j : Int) + 1))
     go_wp2_with fail
     go_returns
     have hF5 := hF4.trans p1.1
     have hA5 := HA.out.fr (a' := (j : Int) + 1) hF5 (by simpa [updL] using p1.2)
     exact Rds.ok hE hF5 rfl hA5
   ·have hE : kindS l j = .error 7 := by rw [HE.out, if_neg (fun h => g1 h.1)]
    go_wp2_with fail
    go_quiet (fail)
    go_wp2_with fail
    refine (UF.out _).mono ?_
    rintro e w4 ⟨rfl, hb4⟩
    have hF4 := (hF.next (below_drewN (Below.refl _ _) _)).next hb4
    go_wp2_with fail
    exact ⟨rfl, Rds.err (by first | exact hE | rfl) hF4⟩
 ·obtain rfl : j = l.length := by omega
  have HE : Hid (kindS l l.length = .error 6) := Lib.hid (by unfold kindS; rw [List.getElem?_eq_none (Nat.le_refl _)])
  have hK : Keeps W [(B, 0, .slice Ab l.length cb), (B, 1, .int .i64 (l.length : Int))] W := ⟨Below.refl _ _, h0⟩
  clear hk hb hj h0
  go_enter Tryz.func153, Tryz.ntmps153
  go_upto_region 1 with (fail)
  refine region_keeps (w0 := W) (L := [(B, 0, .slice Ab l.length cb), (B, 1, .int .i64 (l.length : Int))]) (by kernel_rfl) hK (fun hHeld0 => ?_)
  refine tv 0 4 rfl rfl ?_
  try go_frame
  refine tv 1 5 rfl rfl ?_
  try go_frame
  refine tv 2 6 rfl rfl ?_
  try go_frame
  refine tv 3 7 rfl rfl ?_
  try go_frame
  refine tk 4 8 rfl rfl ?_ ?_ ?_
  rotate_left
  ·intro wq hSw; obtain ⟨⟨qz0, qc0, qf0⟩, ⟨qz1, qc1, qf1⟩, _⟩ := hSw.2; go_simp; (try with_reducible rfl)
  try go_frame
  refine tv 5 9 rfl rfl ?_
  try go_frame
  refine tv 6 10 rfl rfl ?_
  try go_frame
  refine tv 7 11 rfl rfl ?_
  try go_frame
  refine tv 8 12 rfl rfl ?_
  try go_frame
  refine tk 9 13 rfl rfl ?_ ?_ ?_
  rotate_left
  ·intro wq hSw; obtain ⟨⟨qz0, qc0, qf0⟩, ⟨qz1, qc1, qf1⟩, _⟩ := hSw.2; go_simp; (try with_reducible rfl)
  try go_frame
  refine tv 10 14 rfl rfl ?_
  try go_frame
  refine tv 11 15 rfl rfl ?_
  try go_frame
  refine ty [12] ?_
  refine AllReadyH.cons rfl (fun K hK => ?_) AllReadyH.nil
  go_simp
  ((with_reducible refine (UF6.out _).mono ?_); rintro e w2 ⟨rfl, hb⟩)
  have hHeld := hHeld0
  all_goals
   exact ⟨rfl, Rds.err HE.out (Fr.of (hHeld.1.trans hb))⟩
theorem At.put {W0 W : World} {B b o : Nat} {bv : Value} {l : List Int} {a : Int} (h : At W0 B bv l a W) (hb : W0.heap.size ≤ b) (hne : b ≠ B) (u : Value) : At W0 B bv l a (W.setCell ⟨b, o, none⟩ u) := by
 obtain ⟨h1, h2, h3, h4⟩ := h
 refine ⟨h1, h2, h3.setCell (p := ⟨b, o, none⟩) hb u, ?_⟩
 have e : (W.setCell ⟨b, o, none⟩ u).heap[B]? = W.heap[B]? := Below.heap_setCell W ⟨b, o, none⟩ u B (fun e => hne e.symm)
 obtain ⟨⟨z0, c0, f0⟩, ⟨z1, c1, f1⟩, _⟩ := h4
 have hz : B < (W.setCell ⟨b, o, none⟩ u).heap.size := by simpa [World.setCell] using z0
 exact ⟨⟨hz, (World.cell?_of_block (w := W) e).trans c0, (World.frozen?_of_block (w := W) e).trans f0⟩, ⟨hz, (World.cell?_of_block (w := W) e).trans c1, (World.frozen?_of_block (w := W) e).trans f1⟩, trivial⟩
theorem Fr.put {X X' : Nat → Prop} {w W : World} {b o : Nat} (h : Fr X X' w W) (hb : w.heap.size ≤ b) (u : Value) : Fr X X' w (W.setCell ⟨b, o, none⟩ u) :=
 ⟨h.os, h.tape, h.output, by simpa [World.setCell] using h.size, fun k hk hx => (Below.heap_setCell W ⟨b, o, none⟩ u k (by simp only; omega)).trans (h.block k hk hx), h.more⟩
theorem updL_fst {b o : Nat} {u : Value} {L : List (Nat × Nat × Value)} {X : Nat → Prop} (h : ∀ q ∈ L, ¬ X q.1) : ∀ q ∈ updL b o u L, ¬ X q.1 := by
 intro q hq
 obtain ⟨p, hp, rfl⟩ := List.mem_map.1 hq
 have := h p hp
 split <;> simpa using this
theorem KF.put {X X' : Nat → Prop} {w W : World} {L M : List (Nat × Nat × Value)} {b o : Nat} {a : Value} (h : KF X w L X' W) (hb : w.heap.size ≤ b) (ha : W.cell? ⟨b, o, none⟩ = some a) (u : Value) (hM : updL b o u L = M) : KF X w M X' (W.setCell ⟨b, o, none⟩ u) :=
 hM ▸ ⟨⟨h.1.1.put hb u, updL_fst h.1.2⟩, h.2.upd ha⟩
theorem KF.put3 {X X' : Nat → Prop} {w W : World} {L M : List (Nat × Nat × Value)} {b : Nat} {a0 a1 a2 : Value} (h : KF X w L X' W) (hb : w.heap.size ≤ b) (h0 : W.cell? ⟨b, 0, none⟩ = some a0) (h1 : W.cell? ⟨b, 1, none⟩ = some a1) (h2 : W.cell? ⟨b, 2, none⟩ = some a2) (u0 u1 u2 : Value) (hM : updL b 2 u2 (updL b 1 u1 (updL b 0 u0 L)) = M) : KF X w M X' (((W.setCell ⟨b, 0, none⟩ u0).setCell ⟨b, 1, none⟩ u1).setCell ⟨b, 2, none⟩ u2) :=
 ((h.put hb h0 u0 rfl).put hb (off_cell (fun e => by cases e) h1) u1 rfl).put hb (off_cell (fun e => by cases e) (off_cell (fun e => by cases e) h2)) u2 hM
theorem At.put3 {W0 W : World} {B b : Nat} {bv : Value} {l : List Int} {a : Int} (h : At W0 B bv l a W) (hb : W0.heap.size ≤ b) (hne : b ≠ B) (u0 u1 u2 : Value) : At W0 B bv l a (((W.setCell ⟨b, 0, none⟩ u0).setCell ⟨b, 1, none⟩ u1).setCell ⟨b, 2, none⟩ u2) :=
 ((h.put hb hne u0).put hb hne u1).put hb hne u2
def runS (l : List Int) (a ah : Int) : Except Int (Rn × Int) := match gU l a 0 281474976710656 with
 | .error c => .error c
 | .ok (x, a1) => match gU l a1 1 256 with
  | .error c => .error c
  | .ok (c, a2) => if 1 < c then (match gU l a2 0 281474976710656 with
   | .error c => .error c
   | .ok (s, a3) => .ok (⟨ah + x, s, c⟩, a3)) else .ok (⟨ah + x, 0, c⟩, a2)
theorem gU_in {l : List Int} {a lo hi x a' : Int} (h : gU l a lo hi = .ok (x, a')) : lo ≤ x ∧ x ≤ hi := by
 unfold gU at h
 split at h
 ·split at h
  ·cases h; assumption
  ·cases h
 ·cases h
set_option maxRecDepth 100000 in
set_option maxHeartbeats 2000000 in
theorem run_any (l : List Int) (hl : l.length ≤ 1000000) (hb : ∀ z ∈ l, 0 ≤ z ∧ z < 256) (W0 : World) (B : Nat) (bv : Value) (a ah : Int) (h0 : 0 ≤ ah) (h1 : ah ≤ 281474976710656) (W : World) (h : At W0 B bv l a W) :
  Calls Tryz.prog 191 #[.pointer (some ⟨B, 0, none⟩), .int .i64 ah] W (Rds W0 B bv l W (fun r e _ => e = .returned (runV r)) (runS l a ah)) := by
 have PL := Lib.hid (fun a lo hi hhi W h => plain_any l hl hb W0 B bv a W h lo hi hhi)
 have hBW : B < W.heap.size := h.cs.1.1
 have hlow := h.low
 have hK : KF (fun k => k = B) W [(W.heap.size, 0, .int .i64 0), (W.heap.size, 1, .int .i64 0), (W.heap.size, 2, .int .i64 0), (W.heap.size + 1, 0, .int .i64 0), (W.heap.size + 1, 1, .int .i64 0), (W.heap.size + 1, 2, .int .i64 0)] (fun k => k = B) ((W.alloc (.cells #[.int .i64 0, .int .i64 0, .int .i64 0] 44)).alloc (.cells #[.int .i64 0, .int .i64 0, .int .i64 0] 44)) :=
  KF.start ((below_alloc W _).trans ((below_alloc _ _).mono (below_alloc W _).size)) (by simp [Cells, go_sem]) (by simp; omega)
 have hA := (h.next (below_alloc W (.cells #[.int .i64 0, .int .i64 0, .int .i64 0] 44))).next (below_alloc _ (.cells #[.int .i64 0, .int .i64 0, .int .i64 0] 44))
 clear h
 go_enter Tryz.func191, Tryz.ntmps191
 go_wp2_with fail
 refine (PL.out a 0 281474976710656 (by omega) _ hA).mono ?_
 rintro e w1 hq
 obtain ⟨hf, ⟨c, hg, rfl⟩ | ⟨x, a1, hg, rfl, hA1⟩⟩ := hq.ways
 ·have hE : runS l a ah = .error c := by unfold runS; rw [hg]
  go_wp2_with fail
  exact ⟨rfl, Rds.err hE (hK.turn hf).1.1⟩
 replace hK := hK.turn hf
 clear hA hf hq
 have hx := gU_in hg
 have e1 : wrap64 (ah + x) = ah + x := i64_keeps (by omega) (by omega)
 obtain ⟨⟨kz0,kc0,kf0⟩,⟨kz1,kc1,kf1⟩,⟨kz2,kc2,kf2⟩,⟨kz3,kc3,kf3⟩,⟨kz4,kc4,kf4⟩,⟨kz5,kc5,kf5⟩,_⟩ := id hK.2
 have hA := hA1.put (b := W.heap.size + 1) (o := 0) (by omega) (by omega) (.int .i64 (ah + x))
 replace hK := hK.put (M := [(W.heap.size, 0, .int .i64 0), (W.heap.size, 1, .int .i64 0), (W.heap.size, 2, .int .i64 0), (W.heap.size + 1, 0, .int .i64 (ah + x)), (W.heap.size + 1, 1, .int .i64 0), (W.heap.size + 1, 2, .int .i64 0)]) (by omega) kc3 (.int .i64 (ah + x)) (by simp [updL])
 have HG := Lib.hid hg
 clear hA1 hg
 go_wp2_with fail
 generalize w1.setCell ⟨W.heap.size + 1, 0, none⟩ (.int .i64 (ah + x)) = w2 at *
 clear kz0 kc0 kf0 kz1 kc1 kf1 kz2 kc2 kf2 kz3 kc3 kf3 kz4 kc4 kf4 kz5 kc5 kf5
 refine (PL.out a1 1 256 (by omega) _ hA).mono ?_
 rintro e w3 hq
 obtain ⟨hf, ⟨c, hg, rfl⟩ | ⟨c, a2, hg, rfl, hA2⟩⟩ := hq.ways
 ·have hE : runS l a ah = .error c := by unfold runS; rw [HG.out]; simp only; rw [hg]
  go_wp2_with fail
  exact ⟨rfl, Rds.err hE (hK.turn hf).1.1⟩
 replace hK := hK.turn hf
 clear hA hf hq
 have hc := gU_in hg
 obtain ⟨⟨kz0,kc0,kf0⟩,⟨kz1,kc1,kf1⟩,⟨kz2,kc2,kf2⟩,⟨kz3,kc3,kf3⟩,⟨kz4,kc4,kf4⟩,⟨kz5,kc5,kf5⟩,_⟩ := id hK.2
 have hA := hA2.put (b := W.heap.size + 1) (o := 2) (by omega) (by omega) (.int .i64 c)
 replace hK := hK.put (M := [(W.heap.size, 0, .int .i64 0), (W.heap.size, 1, .int .i64 0), (W.heap.size, 2, .int .i64 0), (W.heap.size + 1, 0, .int .i64 (ah + x)), (W.heap.size + 1, 1, .int .i64 0), (W.heap.size + 1, 2, .int .i64 c)]) (by omega) kc5 (.int .i64 c) (by simp [updL])
 have HG2 := Lib.hid hg
 clear hA2 hg
 go_upto_region 4 with (fail)
 generalize w3.setCell ⟨W.heap.size + 1, 2, none⟩ (.int .i64 c) = w4 at *
 clear kz0 kc0 kf0 kz1 kc1 kf1 kz2 kc2 kf2 kz3 kc3 kf3 kz4 kc4 kf4 kz5 kc5 kf5
 obtain ⟨⟨kz0,kc0,kf0⟩,⟨kz1,kc1,kf1⟩,⟨kz2,kc2,kf2⟩,⟨kz3,kc3,kf3⟩,⟨kz4,kc4,kf4⟩,⟨kz5,kc5,kf5⟩,_⟩ := id hK.2
 by_cases g : 1 < c
 ·go_wp2_with fail
  refine (PL.out a2 0 281474976710656 (by omega) _ hA).mono ?_
  rintro e w5 hq
  obtain ⟨hf, ⟨c', hg, rfl⟩ | ⟨s, a3, hg, rfl, hA3⟩⟩ := hq.ways
  ·have hE : runS l a ah = .error c' := by unfold runS; rw [HG.out]; simp only; rw [HG2.out]; simp only; rw [if_pos g, hg]
   go_wp2_with fail
   exact ⟨rfl, Rds.err hE (hK.turn hf).1.1⟩
  replace hK := hK.turn hf
  clear hA hf hq
  clear kz0 kc0 kf0 kz1 kc1 kf1 kz2 kc2 kf2 kz3 kc3 kf3 kz4 kc4 kf4 kz5 kc5 kf5
  obtain ⟨⟨kz0,kc0,kf0⟩,⟨kz1,kc1,kf1⟩,⟨kz2,kc2,kf2⟩,⟨kz3,kc3,kf3⟩,⟨kz4,kc4,kf4⟩,⟨kz5,kc5,kf5⟩,_⟩ := id hK.2
  have hA := hA3.put (b := W.heap.size + 1) (o := 1) (by omega) (by omega) (.int .i64 s)
  replace hK := hK.put (M := [(W.heap.size, 0, .int .i64 0), (W.heap.size, 1, .int .i64 0), (W.heap.size, 2, .int .i64 0), (W.heap.size + 1, 0, .int .i64 (ah + x)), (W.heap.size + 1, 1, .int .i64 s), (W.heap.size + 1, 2, .int .i64 c)]) (by omega) kc4 (.int .i64 s) (by simp [updL])
  have hE : runS l a ah = .ok (⟨ah + x, s, c⟩, a3) := by unfold runS; rw [HG.out]; simp only; rw [HG2.out]; simp only; rw [if_pos g, hg]
  clear hA3 hg
  go_upto_region 6 with (fail)
  generalize w5.setCell ⟨W.heap.size + 1, 1, none⟩ (.int .i64 s) = w6 at *
  clear kz0 kc0 kf0 kz1 kc1 kf1 kz2 kc2 kf2 kz3 kc3 kf3 kz4 kc4 kf4 kz5 kc5 kf5
  obtain ⟨⟨kz0,kc0,kf0⟩,⟨kz1,kc1,kf1⟩,⟨kz2,kc2,kf2⟩,⟨kz3,kc3,kf3⟩,⟨kz4,kc4,kf4⟩,⟨kz5,kc5,kf5⟩,_⟩ := id hK.2
  go_wp2_with fail
  have hK7 := hK.put3 (M := [(W.heap.size, 0, .int .i64 (ah + x)), (W.heap.size, 1, .int .i64 s), (W.heap.size, 2, .int .i64 c), (W.heap.size + 1, 0, .int .i64 (ah + x)), (W.heap.size + 1, 1, .int .i64 s), (W.heap.size + 1, 2, .int .i64 c)]) (by omega) kc0 kc1 kc2 (.int .i64 (ah + x)) (.int .i64 s) (.int .i64 c) (by simp [updL])
  have hA7 := hA.put3 (b := W.heap.size) (by omega) (by omega) (.int .i64 (ah + x)) (.int .i64 s) (.int .i64 c)
  clear hK hA kz0 kc0 kf0 kz1 kc1 kf1 kz2 kc2 kf2 kz3 kc3 kf3 kz4 kc4 kf4 kz5 kc5 kf5
  generalize ((w6.setCell ⟨W.heap.size, 0, none⟩ (.int .i64 (ah + x))).setCell ⟨W.heap.size, 1, none⟩ (.int .i64 s)).setCell ⟨W.heap.size, 2, none⟩ (.int .i64 c) = w7 at *
  obtain ⟨⟨kz0,kc0,kf0⟩,⟨kz1,kc1,kf1⟩,⟨kz2,kc2,kf2⟩,⟨kz3,kc3,kf3⟩,⟨kz4,kc4,kf4⟩,⟨kz5,kc5,kf5⟩,_⟩ := id hK7.2
  refine bodyPost_ret (v := runV ⟨ah + x, s, c⟩) (by simp [results, Tryz.results191, go_sem, kc0, kc1, kc2]) rfl ?_
  first | exact Rds.ok hE hK7.1.1 rfl hA7 | exact Rds.ok rfl hK7.1.1 rfl hA7
 ·have hE : runS l a ah = .ok (⟨ah + x, 0, c⟩, a2) := by unfold runS; rw [HG.out]; simp only; rw [HG2.out]; simp only; rw [if_neg g]
  go_wp2_with fail
  have hK7 := hK.put3 (M := [(W.heap.size, 0, .int .i64 (ah + x)), (W.heap.size, 1, .int .i64 0), (W.heap.size, 2, .int .i64 c), (W.heap.size + 1, 0, .int .i64 (ah + x)), (W.heap.size + 1, 1, .int .i64 0), (W.heap.size + 1, 2, .int .i64 c)]) (by omega) kc0 kc1 kc2 (.int .i64 (ah + x)) (.int .i64 0) (.int .i64 c) (by simp [updL])
  have hA7 := hA.put3 (b := W.heap.size) (by omega) (by omega) (.int .i64 (ah + x)) (.int .i64 0) (.int .i64 c)
  clear hK hA kz0 kc0 kf0 kz1 kc1 kf1 kz2 kc2 kf2 kz3 kc3 kf3 kz4 kc4 kf4 kz5 kc5 kf5
  generalize ((w4.setCell ⟨W.heap.size, 0, none⟩ (.int .i64 (ah + x))).setCell ⟨W.heap.size, 1, none⟩ (.int .i64 0)).setCell ⟨W.heap.size, 2, none⟩ (.int .i64 c) = w7 at *
  obtain ⟨⟨kz0,kc0,kf0⟩,⟨kz1,kc1,kf1⟩,⟨kz2,kc2,kf2⟩,⟨kz3,kc3,kf3⟩,⟨kz4,kc4,kf4⟩,⟨kz5,kc5,kf5⟩,_⟩ := id hK7.2
  refine bodyPost_ret (v := runV ⟨ah + x, 0, c⟩) (by simp [results, Tryz.results191, go_sem, kc0, kc1, kc2]) rfl ?_
  first | exact Rds.ok hE hK7.1.1 rfl hA7 | exact Rds.ok rfl hK7.1.1 rfl hA7
end Go.Proofs.YtcfidimnbamnkaaGreat.P12

/-
 Layer 12: the program's reader: runs. Conditions: those written at each fact.
-/
namespace Go.Proofs.YtcfidimnbamnkaaGreat.P12
open Go.RowKit Go.Shelf Go.Proofs.YtcfidimnbamnkaaGreat.P2 Go.Proofs.YtcfidimnbamnkaaGreat.P7 Go.Proofs.YtcfidimnbamnkaaGreat.P11

theorem Fr.step {X X' : Nat → Prop} {w W W' : World} {n : Nat} (h : Fr X X' w W) (hb : Below n W W') (hn : w.heap.size ≤ n) : Fr X X' w W' :=
 ⟨hb.os.trans h.os, hb.tape.trans h.tape, hb.output.trans h.output, Nat.le_trans h.size hb.size, fun k hk hx => (hb.block k (Nat.lt_of_lt_of_le hk hn)).trans (h.block k hk hx), h.more⟩
theorem At.step {W0 W W' : World} {B n : Nat} {bv : Value} {l : List Int} {a : Int} (h : At W0 B bv l a W) (hb : Below n W W') (hB : B < n) (hn : W0.heap.size ≤ n) : At W0 B bv l a W' := by
 obtain ⟨h1, h2, h3, h4⟩ := h
 refine ⟨h1, h2, h3.trans (hb.mono hn), ?_⟩
 have e : W'.heap[B]? = W.heap[B]? := hb.block B hB
 obtain ⟨⟨z0, c0, f0⟩, ⟨z1, c1, f1⟩, _⟩ := h4
 have hz : B < W'.heap.size := Nat.lt_of_lt_of_le z0 hb.size
 exact ⟨⟨hz, (World.cell?_of_block (w := W) e).trans c0, (World.frozen?_of_block (w := W) e).trans f0⟩, ⟨hz, (World.cell?_of_block (w := W) e).trans c1, (World.frozen?_of_block (w := W) e).trans f1⟩, trivial⟩
theorem own_fr {X X' : Nat → Prop} {W W' : World} {b : Nat} {ty : TypeId} {s n : Nat} {v : Value} {xs : List Value} (h : W.ownsRow b ty s v n xs) (hf : Fr X X' W W') (hX : ∀ k, X k → k < b) : W'.ownsRow b ty s v n xs :=
 own_keep h fun k hk1 hk2 => hf.block k hk2 (fun hx => by have := hX k hx; omega)
def goR (l : List Int) : Nat → Int → Int → List Rn → Except Int (List Rn × Int)
 | 0, a, _, acc => .ok (acc, a)
 | n + 1, a, h, acc => match runS l a h with
  | .error c => .error c
  | .ok (r, a1) => if lastN r ≤ 281474976710656 then goR l n a1 (lastN r) (acc ++ [r]) else .error 7
def runsS (l : List Int) (a : Int) : Except Int (List Rn × Int) := match gU l a 1 256 with
 | .error c => .error c
 | .ok (m, a1) => match goR l m.toNat a1 0 [] with
  | .error c => .error c
  | .ok (L, a2) => if okB L then .ok (L, a2) else .error 7
theorem runS_in {l : List Int} {a h a' : Int} {r : Rn} (hh : 0 ≤ h ∧ h ≤ 281474976710656) (e : runS l a h = .ok (r, a')) : 0 ≤ r.f ∧ r.f ≤ 562949953421312 ∧ 0 ≤ r.s ∧ r.s ≤ 281474976710656 ∧ 1 ≤ r.c ∧ r.c ≤ 256 ∧ 0 ≤ lastN r ∧ wrap64 (r.f + wrap64 (wrap64 (r.c - 1) * r.s)) = lastN r := by
 have key : ∀ f s c : Int, 0 ≤ f → f ≤ 562949953421312 → 0 ≤ s → s ≤ 281474976710656 → 1 ≤ c → c ≤ 256 → 0 ≤ lastN ⟨f, s, c⟩ ∧ wrap64 (f + wrap64 (wrap64 (c - 1) * s)) = lastN ⟨f, s, c⟩ := by
  intro f s c h1 h2 h3 h4 h5 h6
  have e1 : wrap64 (c - 1) = c - 1 := i64_keeps (by omega) (by omega)
  rw [e1]
  have g1 := Int.mul_nonneg (show 0 ≤ c - 1 by omega) h3
  have g2 : (c - 1) * s ≤ 255 * 281474976710656 := Int.mul_le_mul (by omega) h4 h3 (by omega)
  unfold lastN
  generalize (c - 1) * s = m at *
  rw [i64_keeps (x := m) (by omega) (by omega)]
  exact ⟨by simp only; omega, i64_keeps (by omega) (by omega)⟩
 unfold runS at e
 cases h1 : gU l a 0 281474976710656 with
 | error c => rw [h1] at e; cases e
 | ok p =>
  obtain ⟨x, a1⟩ := p
  have b1 := gU_in h1
  rw [h1] at e
  simp only at e
  cases h2 : gU l a1 1 256 with
  | error c => rw [h2] at e; cases e
  | ok p =>
   obtain ⟨c, a2⟩ := p
   have b2 := gU_in h2
   rw [h2] at e
   simp only at e
   by_cases g : 1 < c
   ·rw [if_pos g] at e
    cases h3 : gU l a2 0 281474976710656 with
    | error c => rw [h3] at e; cases e
    | ok p =>
     obtain ⟨s, a3⟩ := p
     have b3 := gU_in h3
     rw [h3] at e
     cases e
     obtain ⟨k1, k2⟩ := key (h + x) s c (by omega) (by omega) b3.1 b3.2 b2.1 b2.2
     exact ⟨by simp only; omega, by simp only; omega, b3.1, b3.2, b2.1, b2.2, k1, k2⟩
   ·rw [if_neg g] at e
    cases e
    obtain ⟨k1, k2⟩ := key (h + x) 0 c (by omega) (by omega) (by omega) (by omega) b2.1 b2.2
    exact ⟨by simp only; omega, by simp only; omega, by simp, by simp, b2.1, b2.2, k1, k2⟩
theorem last2_any (r : Rn) (e : wrap64 (r.f + wrap64 (wrap64 (r.c - 1) * r.s)) = lastN r) (w : World) : Calls Tryz.prog 186 #[runV r] w (Ret w (.int .i64 (lastN r))) := by
 have HE := Lib.hid e
 obtain ⟨f, s, c⟩ := r
 clear e
 simp only at HE ⊢
 generalize lastN ⟨f, s, c⟩ = z at *
 go_enter Tryz.func186, Tryz.ntmps186
 go_wp2_with fail
 go_ret
 exact ⟨by rw [← HE.out]; rfl, by go_grown⟩
theorem wrap_next {k : Nat} (h : k < 1000000) : wrap64 ((k : Int) + 1) = (k : Int) + 1 := i64_keeps (by omega) (by omega)
theorem fits_one {k M : Nat} (hk : k < M) (hM : (1 : Int) ≤ (M : Int) ∧ (M : Int) ≤ 256) : k + 1 ≤ maxLen ∧ (k + 1) * 24 ≤ 140737488355328 ∧ (k + 1) * 8 ≤ 140737488355328 := by unfold maxLen; omega
theorem past_alloc {n : Nat} {w : World} {o : Obj} (h : n ≤ w.heap.size) : n ≤ (w.alloc o).heap.size := Nat.le_trans h (below_alloc w o).size
theorem sub_next {k M : Nat} (h : k < M) : M - k = (M - (k + 1)) + 1 := by omega
theorem at_end {k M : Nat} (h : k ≤ M) (h2 : ¬ k < M) : M - k = 0 ∧ ¬ (k : Int) < (M : Int) := by omega
theorem few_runs {k M : Nat} (h : k ≤ M) (hM : (1 : Int) ≤ (M : Int) ∧ (M : Int) ≤ 256) : k ≤ 1000000 := by omega
theorem readR_own {w : World} {B : Nat} {t : TypeId} {v : Value} {l : List Rn} (h : w.ownsRow B t 3 v l.length (flatR l)) : ReadsR w v l := P7.readsR_own h
set_option maxRecDepth 100000 in
set_option maxHeartbeats 4000000 in
theorem rruns_any (l : List Int) (hl : l.length ≤ 1000000) (hb : ∀ z ∈ l, 0 ≤ z ∧ z < 256) (W0 : World) (B : Nat) (bv : Value) (a : Int) (W : World) (h : At W0 B bv l a W) :
  Calls Tryz.prog 155 #[.pointer (some ⟨B, 0, none⟩)] W (Rds W0 B bv l W (fun L e w' => ∃ A n c, e = .returned (.slice A n c) ∧ w'.ownsRow W.heap.size 44 3 (.slice A n c) L.length (flatR L)) (runsS l a)) := by
 have PL := Lib.hid (plain_any l hl hb W0 B bv a W h 1 256 (by omega))
 have RN := Lib.hid (fun a ah h0 h1 W h => run_any l hl hb W0 B bv a ah h0 h1 W h)
 have UT := Lib.hid (unless_true 7)
 have UF := Lib.hid (unless_false 7)
 obtain ⟨ti, hi, hz0, hz1, hz2⟩ := info_parts infoRun
 have hBW : B < W.heap.size := h.cs.1.1
 have hlow := Nat.le_trans h.low (Nat.le_of_lt hBW)
 have hA := h
 clear h
 go_enter Tryz.func155, Tryz.ntmps155
 go_wp2_with fail
 refine PL.out.mono ?_
 rintro e w1 hq
 obtain ⟨hf, ⟨c, hg, rfl⟩ | ⟨m, a1, hg, rfl, hA1⟩⟩ := hq.ways
 ·have hE : runsS l a = .error c := by unfold runsS; rw [hg]
  go_wp2_with fail
  exact ⟨rfl, Rds.err (by first | exact hE | rfl) hf⟩
 have hm := gU_in hg
 obtain ⟨M, rfl⟩ : ∃ M : Nat, m = (M : Int) := ⟨m.toNat, by omega⟩
 have HE : Hid (runsS l a = match goR l M a1 0 [] with
  | .error c => .error c
  | .ok (L, a2) => if okB L then .ok (L, a2) else .error 7) := Lib.hid (by unfold runsS; rw [hg]; simp only [Int.toNat_natCast])
 clear PL hq hA hg
 have hf0 := hf
 obtain ⟨gr, hgr⟩ : ∃ gr, gr = goR l M a1 0 [] := ⟨_, rfl⟩
 rw [← hgr] at HE
 have hT0 : Hid (gr = goR l (M - 0) a1 0 []) := Lib.hid hgr
 clear hgr
 go_wp2_with fail
 go_loopw [3, 4, 8] (fun v ah i wr => ∃ (z a' : Int) (acc : List Rn), i = .int .i64 acc.length ∧ acc.length ≤ M ∧ ah = .int .i64 z ∧ 0 ≤ z ∧ z ≤ 281474976710656 ∧ Hid (gr = goR l (M - acc.length) a' z acc) ∧ wr.ownsRow W.heap.size 44 3 v acc.length (flatR acc) ∧ Fr (fun k => k = B) (fun k => k = B) W wr ∧ At W0 B bv l a' wr) (fun _ _ i => fun _ => M - (intOf i).toNat)
 case atStart => exact ⟨0, a1, [], rfl, Nat.zero_le _, rfl, by omega, by omega, hT0, ⟨rfl, .inl ⟨rfl, rfl⟩⟩, hf0, hA1⟩
 case round =>
  obtain ⟨z, a', acc, rfl, hkM, rfl, hz0', hz1', hT, hO, hF, hA⟩ := hrel
  have i0 : (0 : Int) ≤ (acc.length : Int) := by omega
  by_cases hlt : acc.length < M
  ·have i1 : (acc.length : Int) < (M : Int) := by omega
   have gk : wrap64 ((acc.length : Int) + 1) = (acc.length : Int) + 1 := wrap_next (by omega)
   have hN : M - acc.length = (M - (acc.length + 1)) + 1 := sub_next hlt
   have hTT : Hid (∀ c, runS l a' z = .error c → gr = .error c) := Lib.hid (fun c h => by rw [hT.out, hN, goR, h])
   have hTO : Hid (∀ r a2, runS l a' z = .ok (r, a2) → gr = if lastN r ≤ 281474976710656 then goR l (M - (acc.length + 1)) a2 (lastN r) (acc ++ [r]) else .error 7) := Lib.hid (fun r a2 h => by rw [hT.out, hN, goR, h])
   have HO := Lib.hid hO
   clear hT hN hO
   go_wp2_with fail
   refine (RN.out a' z hz0' hz1' wr hA).mono ?_
   rintro e w2 hq
   obtain ⟨hf, ⟨c, hg, rfl⟩ | ⟨r, a2, hg, rfl, hA2⟩⟩ := hq.ways
   ·have hE : runsS l a = .error c := by rw [HE.out, hTT.out c hg]
    go_wp2_with fail
    exact ⟨rfl, Rds.err (by first | exact hE | rfl) (hF.trans hf)⟩
   have hr := runS_in ⟨hz0', hz1'⟩ hg
   have hT2 := hTO.out r a2 hg
   have hF2 := hF.trans hf
   have HO2 := Lib.hid (own_fr HO.out hf (fun k hk => hk ▸ hBW))
   have LA := Lib.hid (fun W => last2_any r hr.2.2.2.2.2.2.2 W)
   clear hTT hTO HO hq hf hF hA hg
   obtain ⟨f, s, c⟩ := r
   simp only at hr
   have K2 : Keeps w2 [(w2.heap.size, 0, .int .i64 f), (w2.heap.size, 1, .int .i64 s), (w2.heap.size, 2, .int .i64 c)] (w2.alloc (.cells #[.int .i64 f, .int .i64 s, .int .i64 c] 44)) := ⟨below_alloc w2 _, by simp [Cells, go_sem]⟩
   have hl0 := hr.2.2.2.2.2.2.1
   clear hr
   generalize lastN ⟨f, s, c⟩ = q at *
   go_wp2_with fail
   refine (LA.out _).mono ?_
   rintro e w3 ⟨rfl, hb3⟩
   replace K2 := K2.next hb3
   clear hb3 LA
   by_cases g7 : q ≤ 281474976710656
   ·rw [if_pos g7] at hT2
    obtain ⟨⟨kz0, kc0, kf0⟩, ⟨kz1, kc1, kf1⟩, ⟨kz2, kc2, kf2⟩, _⟩ := id K2.2
    go_wp2_with fail
    clear kz0 kc0 kf0 kz1 kc1 kf1 kz2 kc2 kf2
    refine (UT.out _).mono ?_
    rintro e w4 ⟨rfl, hb4⟩
    replace K2 := K2.next hb4
    have hF4 := hF2.next K2.1
    have hA4 := hA2.next K2.1
    have HO4 := Lib.hid (owns_below HO2.out K2.1)
    have hs4 := hF4.size
    clear hF2 hA2 HO2 hb4
    obtain ⟨⟨kz0, kc0, kf0⟩, ⟨kz1, kc1, kf1⟩, ⟨kz2, kc2, kf2⟩, _⟩ := id K2.2
    have HT := Lib.hid hT2
    have hFa := hF4.next (below_alloc w4 (.cells #[.int .i64 f, .int .i64 s, .int .i64 c] 44))
    have hAa := hA4.next (below_alloc w4 (.cells #[.int .i64 f, .int .i64 s, .int .i64 c] 44))
    have HL := Lib.hid (fun j hj => (own_in HO4.out (k := j) hj).1)
    have HF := Lib.hid (P7.flatR_app acc [⟨f, s, c⟩])
    clear hF4 hA4 hT2 K2
    go_wp2_with (at_builtin; refine wpList_append_own _ rfl _ _ 22 rfl W.heap.size 44 ti (.agg #[.int .i64 0, .int .i64 0, .int .i64 0]) 3 24 Tryz.underlying22 hi hz0 hz1 hz2 rfl (by decide) u3 _ _ rfl (HO4.out.alloc _) ⟨w4.heap.size, 0, none⟩ 1 1 [.int .i64 f, .int .i64 s, .int .i64 c] rfl rfl (new_cells3 rfl) ?qa ?qb ?qc ?qd ?_)
    case qa => intro u hu; simp at hu; rcases hu with rfl | rfl | rfl <;> rfl
    case qb => exact (fits_one hlt hm).1
    case qc => exact (fits_one hlt hm).2.1
    case qd => exact past_alloc hs4
    intro v8 w8 hown8 hgrow8 _
    obtain ⟨g8, cap8, rfl⟩ := ownsRow_succ hown8
    have hB8 : Below W.heap.size (w4.alloc (.cells #[.int .i64 f, .int .i64 s, .int .i64 c] 44)) w8 := (Below.refl _ _).grown hgrow8 (past_alloc hs4) HL.out
    have hF8 := hFa.step hB8 (Nat.le_refl _)
    have hA8 := hAa.step hB8 hBW hlow
    have HO8 : Hid (w8.ownsRow W.heap.size 44 3 (.slice (some ⟨g8, 0, none⟩) (acc ++ [(⟨f, s, c⟩ : Rn)]).length cap8) (acc ++ [(⟨f, s, c⟩ : Rn)]).length (flatR (acc ++ [(⟨f, s, c⟩ : Rn)]))) := Lib.hid (by
     rw [show flatR (acc ++ [(⟨f, s, c⟩ : Rn)]) = _ from HF.out, List.length_append]
     exact hown8)
    clear hFa hAa hB8 hgrow8 hown8 HL HF HO4
    go_wp2_with fail
    go_roundw
    case rel => exact ⟨q, a2, acc ++ [⟨f, s, c⟩], by simp, (by rw [List.length_append]; exact hlt), rfl, hl0, g7, by simpa using HT, by simpa using HO8.out, hF8, hA8⟩
    case measure => exact index_less7 hlt
   ·rw [if_neg g7] at hT2
    have hE : runsS l a = .error 7 := by rw [HE.out, hT2]
    have t7 : decide (q ≤ 281474976710656) = false := by simpa using g7
    obtain ⟨⟨kz0, kc0, kf0⟩, ⟨kz1, kc1, kf1⟩, ⟨kz2, kc2, kf2⟩, _⟩ := id K2.2
    go_wp2_with fail
    refine (UF.out _).mono ?_
    rintro e w4 ⟨rfl, hb4⟩
    go_wp2_with fail
    exact ⟨rfl, Rds.err (by first | exact hE | rfl) (hF2.next (K2.next hb4).1)⟩
  ·obtain ⟨hx, i1⟩ := at_end hkM hlt
   have hG : gr = .ok (acc, a') := by rw [hT.out, hx, goR]
   have hE : runsS l a = if okB acc then .ok (acc, a') else .error 7 := by rw [HE.out, hG]
   have RV := readR_own hO
   have CK := P7.checkA_any acc (few_runs hkM hm) _ wr RV
   obtain ⟨A, c, rfl, _, _⟩ := id RV
   have HO := Lib.hid hO
   clear hT HE hG hx RV hO
   cases go : okB acc
   ·rw [go] at CK hE
    simp only [Bool.false_eq_true, if_false] at CK hE
    go_wp2_with fail
    refine CK.mono ?_
    rintro e w2 ⟨rfl, hb2⟩
    go_wp2_with fail
    refine (UF.out _).mono ?_
    rintro e w3 ⟨rfl, hb3⟩
    go_wp2_with fail
    exact ⟨rfl, Rds.err (by first | exact hE | rfl) ((hF.next hb2).next hb3)⟩
   ·rw [go] at CK hE
    simp only [if_true] at CK hE
    go_wp2_with fail
    refine CK.mono ?_
    rintro e w2 ⟨rfl, hb2⟩
    go_wp2_with fail
    refine (UT.out _).mono ?_
    rintro e w3 ⟨rfl, hb3⟩
    go_wp2_with fail
    go_returns
    exact Rds.ok (by first | exact hE | rfl) ((hF.next hb2).next hb3) ⟨A, _, c, rfl, owns_below (owns_below HO.out hb2) hb3⟩ ((hA.next hb2).next hb3)
end Go.Proofs.YtcfidimnbamnkaaGreat.P12

/-
 Layer 12: the program's reader: values, a line. Conditions: those written at each fact.
-/
namespace Go.Proofs.YtcfidimnbamnkaaGreat.P12
open Go.RowKit Go.Shelf Go.Proofs.YtcfidimnbamnkaaGreat.P2 Go.Proofs.YtcfidimnbamnkaaGreat.P7 Go.Proofs.YtcfidimnbamnkaaGreat.P11

def goV (l : List Int) : Nat → Int → Int → List Int → Except Int (List Int × Int)
 | 0, a, _, acc => .ok (acc, a)
 | n + 1, a, v, acc => match gS l a with
  | .error c => .error c
  | .ok (d, a1) => if backB (wrap64 (v + d)) then goV l n a1 (wrap64 (v + d)) (acc ++ [wrap64 (v + d)]) else .error 7
theorem new_int {w : World} {x : Int} {ty : TypeId} : ∀ (j : Nat) (u : Value), [Value.int .i64 x][j]? = some u → (w.alloc (.cells #[.int .i64 x] ty)).cell? ((⟨w.heap.size, 0, none⟩ : Addr).add j) = some u := by
 intro j u hj
 match j, hj with
 | 0, hj => simp at hj; subst hj; simp [go_sem, Addr.add]
 | j + 1, hj => simp at hj
set_option maxRecDepth 100000 in
set_option maxHeartbeats 4000000 in
theorem rraw_any (l : List Int) (hl : l.length ≤ 1000000) (hb : ∀ z ∈ l, 0 ≤ z ∧ z < 256) (W0 : World) (B : Nat) (bv : Value) (a : Int) (M : Nat) (hM : M ≤ 256) (W : World) (h : At W0 B bv l a W) :
  Calls Tryz.prog 156 #[.pointer (some ⟨B, 0, none⟩), .int .i64 (M : Int)] W (Rds W0 B bv l W (fun V e w' => ∃ A n c, e = .returned (.slice A n c) ∧ w'.ownsRow W.heap.size 2 1 (.slice A n c) V.length (V.map (Value.int .i64))) (goV l M a 0 [])) := by
 have SG := Lib.hid (fun a W h => signed_any l hl hb W0 B bv a W h)
 have UT := Lib.hid (unless_true 7)
 have UF := Lib.hid (unless_false 7)
 obtain ⟨ti, hi, hz0, hz1, hz2⟩ := info_parts P7.infoI64
 have hBW : B < W.heap.size := h.cs.1.1
 have hlow := Nat.le_trans h.low (Nat.le_of_lt hBW)
 obtain ⟨gr, hgr⟩ : ∃ gr, gr = goV l M a 0 [] := ⟨_, rfl⟩
 rw [← hgr]
 have hT0 : Hid (gr = goV l (M - 0) a 0 []) := Lib.hid hgr
 have hf0 := Fr.refl (fun k => k = B) W
 clear hgr
 go_enter Tryz.func156, Tryz.ntmps156
 go_wp2_with fail
 go_loopw [5, 6, 8] (fun v ah i wr => ∃ (z a' : Int) (acc : List Int), i = .int .i64 acc.length ∧ acc.length ≤ M ∧ ah = .int .i64 z ∧ Hid (gr = goV l (M - acc.length) a' z acc) ∧ wr.ownsRow W.heap.size 2 1 v acc.length (acc.map (Value.int .i64)) ∧ Fr (fun k => k = B) (fun k => k = B) W wr ∧ At W0 B bv l a' wr) (fun _ _ i => fun _ => M - (intOf i).toNat)
 case atStart => exact ⟨0, a, [], rfl, Nat.zero_le _, rfl, hT0, ⟨rfl, .inl ⟨rfl, rfl⟩⟩, hf0, h⟩
 case round =>
  obtain ⟨z, a', acc, rfl, hkM, rfl, hT, hO, hF, hA⟩ := hrel
  have i0 : (0 : Int) ≤ (acc.length : Int) := by omega
  by_cases hlt : acc.length < M
  ·have i1 : (acc.length : Int) < (M : Int) := by omega
   have gk : wrap64 ((acc.length : Int) + 1) = (acc.length : Int) + 1 := wrap_next (by omega)
   have hN : M - acc.length = (M - (acc.length + 1)) + 1 := sub_next hlt
   have hTT : Hid (∀ c, gS l a' = .error c → gr = .error c) := Lib.hid (fun c h => by rw [hT.out, hN, goV, h])
   have hTO : Hid (∀ d a2, gS l a' = .ok (d, a2) → gr = if backB (wrap64 (z + d)) then goV l (M - (acc.length + 1)) a2 (wrap64 (z + d)) (acc ++ [wrap64 (z + d)]) else .error 7) := Lib.hid (fun d a2 h => by rw [hT.out, hN, goV, h])
   have HO := Lib.hid hO
   clear hT hN hO
   go_wp2_with fail
   refine (SG.out a' wr hA).mono ?_
   rintro e w2 hq
   obtain ⟨hf, ⟨c, hg, rfl⟩ | ⟨d, a2, hg, rfl, hA2⟩⟩ := hq.ways
   ·have hE := hTT.out c hg
    go_wp2_with fail
    exact ⟨rfl, Rds.err (by first | exact hE | rfl) (hF.trans hf)⟩
   have hT2 := hTO.out d a2 hg
   have hF2 := hF.trans hf
   have HO2 := Lib.hid (own_fr HO.out hf (fun k hk => hk ▸ hBW))
   clear hTT hTO HO hq hf hF hA hg
   generalize hx : wrap64 (z + d) = x at hT2
   unfold backB at hT2
   cases g1 : decide (-2305844108725321728 ≤ x)
   ·have g1' : ¬ -2305844108725321728 ≤ x := by simpa using g1
    rw [g1] at hT2
    simp only [Bool.false_and, Bool.false_eq_true, if_false] at hT2
    go_wp2_with fail
    refine (UF.out _).mono ?_
    rintro e w3 ⟨rfl, hb3⟩
    go_wp2_with fail
    exact ⟨rfl, Rds.err (by first | exact hT2 | rfl) (hF2.next hb3)⟩
   have g1' : -2305844108725321728 ≤ x := by simpa using g1
   cases g2 : decide (x ≤ 2305844108725321728)
   ·have g2' : ¬ x ≤ 2305844108725321728 := by simpa using g2
    rw [g1, g2] at hT2
    simp only [Bool.and_false, Bool.false_eq_true, if_false] at hT2
    go_wp2_with fail
    refine (UF.out _).mono ?_
    rintro e w3 ⟨rfl, hb3⟩
    go_wp2_with fail
    exact ⟨rfl, Rds.err (by first | exact hT2 | rfl) (hF2.next hb3)⟩
   have g2' : x ≤ 2305844108725321728 := by simpa using g2
   rw [g1, g2] at hT2
   simp only [Bool.and_true, if_true] at hT2
   have HT := Lib.hid hT2
   clear hT2
   go_wp2_with fail
   refine (UT.out _).mono ?_
   rintro e w4 ⟨rfl, hb4⟩
   have hF4 := hF2.next hb4
   have hA4 := hA2.next hb4
   have HO4 := Lib.hid (owns_below HO2.out hb4)
   have hs4 := hF4.size
   clear hF2 hA2 HO2 hb4
   have hFa := hF4.next (below_alloc w4 (.cells #[.int .i64 x] 2))
   have hAa := hA4.next (below_alloc w4 (.cells #[.int .i64 x] 2))
   have HL := Lib.hid (fun j hj => (own_in HO4.out (k := j) hj).1)
   clear hF4 hA4
   go_wp2_with (at_builtin; refine wpList_append_own _ rfl _ _ 25 rfl W.heap.size 2 ti (.int .i64 0) 1 8 Tryz.underlying25 hi hz0 hz1 hz2 rfl (by decide) u5 _ _ rfl (HO4.out.alloc _) ⟨w4.heap.size, 0, none⟩ 1 1 [.int .i64 x] rfl rfl new_int ?qa ?qb ?qc ?qd ?_)
   case qa => intro u hu; simp at hu; subst hu; rfl
   case qb => exact (fits_one hlt ⟨by omega, by omega⟩).1
   case qc => exact (fits_one hlt ⟨by omega, by omega⟩).2.2
   case qd => exact past_alloc hs4
   intro v8 w8 hown8 hgrow8 _
   obtain ⟨g8, cap8, rfl⟩ := ownsRow_succ hown8
   have hB8 : Below W.heap.size (w4.alloc (.cells #[.int .i64 x] 2)) w8 := (Below.refl _ _).grown hgrow8 (past_alloc hs4) HL.out
   have hF8 := hFa.step hB8 (Nat.le_refl _)
   have hA8 := hAa.step hB8 hBW hlow
   have HO8 : Hid (w8.ownsRow W.heap.size 2 1 (.slice (some ⟨g8, 0, none⟩) (acc ++ [x]).length cap8) (acc ++ [x]).length ((acc ++ [x]).map (Value.int .i64))) := Lib.hid (by
    rw [List.map_append, List.length_append]
    exact hown8)
   clear hFa hAa hB8 hgrow8 hown8 HL HO4
   go_wp2_with fail
   go_roundw
   case rel => exact ⟨x, a2, acc ++ [x], by simp, (by rw [List.length_append]; exact hlt), rfl, by simpa using HT, by simpa using HO8.out, hF8, hA8⟩
   case measure => exact index_less7 hlt
  ·obtain ⟨hx, i1⟩ := at_end hkM hlt
   have hG : gr = .ok (acc, a') := by rw [hT.out, hx, goV]
   obtain ⟨A, c, rfl, _, _⟩ := reads_own (k := .i64) hO
   have HO := Lib.hid hO
   clear hT hx hO
   go_wp2_with fail
   go_returns
   exact Rds.ok (by first | exact hG | rfl) hF ⟨A, _, c, rfl, HO.out⟩ hA
def tl1 (l : List Int) (a r n d : Int) : Except Int ((Int × Int × Int × Int) × Int) := match gS l a with
 | .error c => .error c
 | .ok (x, a') => .ok ((x, r, n, d), a')
def tl2 (l : List Int) (a r : Int) : Except Int ((Int × Int × Int × Int) × Int) := match gS l a with
 | .error c => .error c
 | .ok (n, a1) => match gU l a1 0 281474976710656 with
  | .error c => .error c
  | .ok (d, a2) => tl1 l a2 r n d
def lineS (l : List Int) (a k : Int) : Except Int ((Int × Int × Int × Int) × Int) := if k = 3 then (match gU l a 0 281474976710656 with
 | .error c => .error c
 | .ok (r, a1) => tl2 l a1 r) else if k = 2 then tl2 l a 0 else tl1 l a 0 0 1
theorem KF.put4 {X X' : Nat → Prop} {w W : World} {L M : List (Nat × Nat × Value)} {b : Nat} {a0 a1 a2 a3 : Value} (h : KF X w L X' W) (hb : w.heap.size ≤ b) (h0 : W.cell? ⟨b, 0, none⟩ = some a0) (h1 : W.cell? ⟨b, 1, none⟩ = some a1) (h2 : W.cell? ⟨b, 2, none⟩ = some a2) (h3 : W.cell? ⟨b, 3, none⟩ = some a3) (u0 u1 u2 u3 : Value) (hM : updL b 3 u3 (updL b 2 u2 (updL b 1 u1 (updL b 0 u0 L))) = M) : KF X w M X' ((((W.setCell ⟨b, 0, none⟩ u0).setCell ⟨b, 1, none⟩ u1).setCell ⟨b, 2, none⟩ u2).setCell ⟨b, 3, none⟩ u3) :=
 (h.put3 hb h0 h1 h2 u0 u1 u2 rfl).put hb (off_cell (fun e => by cases e) (off_cell (fun e => by cases e) (off_cell (fun e => by cases e) h3))) u3 hM
theorem At.put4 {W0 W : World} {B b : Nat} {bv : Value} {l : List Int} {a : Int} (h : At W0 B bv l a W) (hb : W0.heap.size ≤ b) (hne : b ≠ B) (u0 u1 u2 u3 : Value) : At W0 B bv l a ((((W.setCell ⟨b, 0, none⟩ u0).setCell ⟨b, 1, none⟩ u1).setCell ⟨b, 2, none⟩ u2).setCell ⟨b, 3, none⟩ u3) :=
 (h.put3 hb hne u0 u1 u2).put hb hne u3
set_option maxRecDepth 100000 in
set_option maxHeartbeats 4000000 in
theorem line1_any (l : List Int) (hl : l.length ≤ 1000000) (hb : ∀ z ∈ l, 0 ≤ z ∧ z < 256) (W0 : World) (B : Nat) (bv : Value) (a0 : Int) (W : World) (h : At W0 B bv l a0 W) :
  Calls Tryz.prog 157 #[.pointer (some ⟨B, 0, none⟩), .int .i64 1] W (Rds W0 B bv l W (fun x e _ => e = .returned (lnV x.1 x.2.1 x.2.2.1 x.2.2.2)) (lineS l a0 1)) := by
 have SG := Lib.hid (fun a W h => signed_any l hl hb W0 B bv a W h)
 have PL := Lib.hid (fun a W h => plain_any l hl hb W0 B bv a W h 0 281474976710656 (by omega))
 have hBW : B < W.heap.size := h.cs.1.1
 have hlow := h.low
 have hK : KF (fun k => k = B) W [(W.heap.size, 0, .int .i64 0), (W.heap.size, 1, .int .i64 0), (W.heap.size, 2, .int .i64 0), (W.heap.size, 3, .int .i64 0), (W.heap.size + 1, 0, .int .i64 0), (W.heap.size + 1, 1, .int .i64 0), (W.heap.size + 1, 2, .int .i64 0), (W.heap.size + 1, 3, .int .i64 1)] (fun k => k = B) ((W.alloc (.cells #[.int .i64 0, .int .i64 0, .int .i64 0, .int .i64 0] 24)).alloc (.cells #[.int .i64 0, .int .i64 0, .int .i64 0, .int .i64 1] 24)) :=
  KF.start ((below_alloc W _).trans ((below_alloc _ _).mono (below_alloc W _).size)) (by simp [Cells, go_sem]) (by simp; omega)
 have hA := (h.next (below_alloc W (.cells #[.int .i64 0, .int .i64 0, .int .i64 0, .int .i64 0] 24))).next (below_alloc _ (.cells #[.int .i64 0, .int .i64 0, .int .i64 0, .int .i64 1] 24))
 clear h hl hb
 go_enter Tryz.func157, Tryz.ntmps157
 go_wp2_with fail
 refine (SG.out a0 _ hA).mono ?_
 rintro e w1 hq
 obtain ⟨hf, ⟨c, hg, rfl⟩ | ⟨x, a1, hg, rfl, hA1⟩⟩ := hq.ways
 ·have hE : lineS l a0 1 = .error c := by unfold lineS; rw [if_neg (by decide), if_neg (by decide)]; unfold tl1; rw [hg]
  go_wp2_with fail
  exact ⟨rfl, Rds.err (by first | exact hE | rfl) (hK.turn hf).1.1⟩
 replace hK := hK.turn hf
 have hE : lineS l a0 1 = .ok ((x, 0, 0, 1), a1) := by unfold lineS; rw [if_neg (by decide), if_neg (by decide)]; unfold tl1; rw [hg]
 have HG0 := Lib.hid hg
 clear hA hf hq hg
 obtain ⟨⟨kz0,kc0,kf0⟩,⟨kz1,kc1,kf1⟩,⟨kz2,kc2,kf2⟩,⟨kz3,kc3,kf3⟩,⟨kz4,kc4,kf4⟩,⟨kz5,kc5,kf5⟩,⟨kz6,kc6,kf6⟩,⟨kz7,kc7,kf7⟩,_⟩ := id hK.2
 have hA := hA1.put (b := W.heap.size + 1) (o := 0) (by omega) (by omega) (.int .i64 x)
 replace hK := hK.put (M := [(W.heap.size, 0, .int .i64 0), (W.heap.size, 1, .int .i64 0), (W.heap.size, 2, .int .i64 0), (W.heap.size, 3, .int .i64 0), (W.heap.size + 1, 0, .int .i64 x), (W.heap.size + 1, 1, .int .i64 0), (W.heap.size + 1, 2, .int .i64 0), (W.heap.size + 1, 3, .int .i64 1)]) (by omega) kc4 (.int .i64 x) (by simp [updL])
 clear hA1
 go_upto_region 10 with (fail)
 generalize w1.setCell ⟨W.heap.size + 1, 0, none⟩ (.int .i64 x) = w2 at *
 clear kz0 kc0 kf0 kz1 kc1 kf1 kz2 kc2 kf2 kz3 kc3 kf3 kz4 kc4 kf4 kz5 kc5 kf5 kz6 kc6 kf6 kz7 kc7 kf7
 obtain ⟨⟨kz0,kc0,kf0⟩,⟨kz1,kc1,kf1⟩,⟨kz2,kc2,kf2⟩,⟨kz3,kc3,kf3⟩,⟨kz4,kc4,kf4⟩,⟨kz5,kc5,kf5⟩,⟨kz6,kc6,kf6⟩,⟨kz7,kc7,kf7⟩,_⟩ := id hK.2
 go_wp2_with fail
 have hK7 := hK.put4 (M := [(W.heap.size, 0, .int .i64 x), (W.heap.size, 1, .int .i64 0), (W.heap.size, 2, .int .i64 0), (W.heap.size, 3, .int .i64 1), (W.heap.size + 1, 0, .int .i64 x), (W.heap.size + 1, 1, .int .i64 0), (W.heap.size + 1, 2, .int .i64 0), (W.heap.size + 1, 3, .int .i64 1)]) (by omega) kc0 kc1 kc2 kc3 (.int .i64 x) (.int .i64 0) (.int .i64 0) (.int .i64 1) (by simp [updL])
 have hA7 := hA.put4 (b := W.heap.size) (by omega) (by omega) (.int .i64 x) (.int .i64 0) (.int .i64 0) (.int .i64 1)
 clear hK hA kz0 kc0 kf0 kz1 kc1 kf1 kz2 kc2 kf2 kz3 kc3 kf3 kz4 kc4 kf4 kz5 kc5 kf5 kz6 kc6 kf6 kz7 kc7 kf7
 generalize (((w2.setCell ⟨W.heap.size, 0, none⟩ (.int .i64 x)).setCell ⟨W.heap.size, 1, none⟩ (.int .i64 0)).setCell ⟨W.heap.size, 2, none⟩ (.int .i64 0)).setCell ⟨W.heap.size, 3, none⟩ (.int .i64 1) = wz at *
 obtain ⟨⟨kz0,kc0,kf0⟩,⟨kz1,kc1,kf1⟩,⟨kz2,kc2,kf2⟩,⟨kz3,kc3,kf3⟩,⟨kz4,kc4,kf4⟩,⟨kz5,kc5,kf5⟩,⟨kz6,kc6,kf6⟩,⟨kz7,kc7,kf7⟩,_⟩ := id hK7.2
 refine bodyPost_ret (v := lnV x 0 0 1) (by simp [results, Tryz.results157, go_sem, kc0, kc1, kc2, kc3]) rfl ?_
 first | exact Rds.ok hE hK7.1.1 rfl hA7 | exact Rds.ok rfl hK7.1.1 rfl hA7
set_option maxRecDepth 100000 in
set_option maxHeartbeats 4000000 in
theorem line2_any (l : List Int) (hl : l.length ≤ 1000000) (hb : ∀ z ∈ l, 0 ≤ z ∧ z < 256) (W0 : World) (B : Nat) (bv : Value) (a0 : Int) (W : World) (h : At W0 B bv l a0 W) :
  Calls Tryz.prog 157 #[.pointer (some ⟨B, 0, none⟩), .int .i64 2] W (Rds W0 B bv l W (fun x e _ => e = .returned (lnV x.1 x.2.1 x.2.2.1 x.2.2.2)) (lineS l a0 2)) := by
 have SG := Lib.hid (fun a W h => signed_any l hl hb W0 B bv a W h)
 have PL := Lib.hid (fun a W h => plain_any l hl hb W0 B bv a W h 0 281474976710656 (by omega))
 have hBW : B < W.heap.size := h.cs.1.1
 have hlow := h.low
 have hK : KF (fun k => k = B) W [(W.heap.size, 0, .int .i64 0), (W.heap.size, 1, .int .i64 0), (W.heap.size, 2, .int .i64 0), (W.heap.size, 3, .int .i64 0), (W.heap.size + 1, 0, .int .i64 0), (W.heap.size + 1, 1, .int .i64 0), (W.heap.size + 1, 2, .int .i64 0), (W.heap.size + 1, 3, .int .i64 1)] (fun k => k = B) ((W.alloc (.cells #[.int .i64 0, .int .i64 0, .int .i64 0, .int .i64 0] 24)).alloc (.cells #[.int .i64 0, .int .i64 0, .int .i64 0, .int .i64 1] 24)) :=
  KF.start ((below_alloc W _).trans ((below_alloc _ _).mono (below_alloc W _).size)) (by simp [Cells, go_sem]) (by simp; omega)
 have hA := (h.next (below_alloc W (.cells #[.int .i64 0, .int .i64 0, .int .i64 0, .int .i64 0] 24))).next (below_alloc _ (.cells #[.int .i64 0, .int .i64 0, .int .i64 0, .int .i64 1] 24))
 clear h hl hb
 go_enter Tryz.func157, Tryz.ntmps157
 go_wp2_with fail
 refine (SG.out a0 _ hA).mono ?_
 rintro e w1 hq
 obtain ⟨hf, ⟨c, hg, rfl⟩ | ⟨n, a1, hg, rfl, hA1⟩⟩ := hq.ways
 ·have hE : lineS l a0 2 = .error c := by unfold lineS; rw [if_neg (by decide), if_pos rfl]; unfold tl2; rw [hg]
  go_wp2_with fail
  exact ⟨rfl, Rds.err (by first | exact hE | rfl) (hK.turn hf).1.1⟩
 replace hK := hK.turn hf
 have HG0 := Lib.hid hg
 clear hA hf hq hg
 obtain ⟨⟨kz0,kc0,kf0⟩,⟨kz1,kc1,kf1⟩,⟨kz2,kc2,kf2⟩,⟨kz3,kc3,kf3⟩,⟨kz4,kc4,kf4⟩,⟨kz5,kc5,kf5⟩,⟨kz6,kc6,kf6⟩,⟨kz7,kc7,kf7⟩,_⟩ := id hK.2
 have hA := hA1.put (b := W.heap.size + 1) (o := 2) (by omega) (by omega) (.int .i64 n)
 replace hK := hK.put (M := [(W.heap.size, 0, .int .i64 0), (W.heap.size, 1, .int .i64 0), (W.heap.size, 2, .int .i64 0), (W.heap.size, 3, .int .i64 0), (W.heap.size + 1, 0, .int .i64 0), (W.heap.size + 1, 1, .int .i64 0), (W.heap.size + 1, 2, .int .i64 n), (W.heap.size + 1, 3, .int .i64 1)]) (by omega) kc6 (.int .i64 n) (by simp [updL])
 clear hA1
 go_wp2_with fail
 generalize w1.setCell ⟨W.heap.size + 1, 2, none⟩ (.int .i64 n) = w2 at *
 clear kz0 kc0 kf0 kz1 kc1 kf1 kz2 kc2 kf2 kz3 kc3 kf3 kz4 kc4 kf4 kz5 kc5 kf5 kz6 kc6 kf6 kz7 kc7 kf7
 refine (PL.out a1 _ hA).mono ?_
 rintro e w3 hq
 obtain ⟨hf, ⟨c, hg, rfl⟩ | ⟨d, a2, hg, rfl, hA1⟩⟩ := hq.ways
 ·have hE : lineS l a0 2 = .error c := by unfold lineS; rw [if_neg (by decide), if_pos rfl]; unfold tl2; rw [HG0.out]; simp only; rw [hg]
  go_wp2_with fail
  exact ⟨rfl, Rds.err (by first | exact hE | rfl) (hK.turn hf).1.1⟩
 replace hK := hK.turn hf
 have HG1 := Lib.hid hg
 clear hA hf hq hg
 obtain ⟨⟨kz0,kc0,kf0⟩,⟨kz1,kc1,kf1⟩,⟨kz2,kc2,kf2⟩,⟨kz3,kc3,kf3⟩,⟨kz4,kc4,kf4⟩,⟨kz5,kc5,kf5⟩,⟨kz6,kc6,kf6⟩,⟨kz7,kc7,kf7⟩,_⟩ := id hK.2
 have hA := hA1.put (b := W.heap.size + 1) (o := 3) (by omega) (by omega) (.int .i64 d)
 replace hK := hK.put (M := [(W.heap.size, 0, .int .i64 0), (W.heap.size, 1, .int .i64 0), (W.heap.size, 2, .int .i64 0), (W.heap.size, 3, .int .i64 0), (W.heap.size + 1, 0, .int .i64 0), (W.heap.size + 1, 1, .int .i64 0), (W.heap.size + 1, 2, .int .i64 n), (W.heap.size + 1, 3, .int .i64 d)]) (by omega) kc7 (.int .i64 d) (by simp [updL])
 clear hA1
 go_wp2_with fail
 generalize w3.setCell ⟨W.heap.size + 1, 3, none⟩ (.int .i64 d) = w4 at *
 clear kz0 kc0 kf0 kz1 kc1 kf1 kz2 kc2 kf2 kz3 kc3 kf3 kz4 kc4 kf4 kz5 kc5 kf5 kz6 kc6 kf6 kz7 kc7 kf7
 refine (SG.out a2 _ hA).mono ?_
 rintro e w5 hq
 obtain ⟨hf, ⟨c, hg, rfl⟩ | ⟨x, a3, hg, rfl, hA1⟩⟩ := hq.ways
 ·have hE : lineS l a0 2 = .error c := by unfold lineS; rw [if_neg (by decide), if_pos rfl]; unfold tl2; rw [HG0.out]; simp only; rw [HG1.out]; simp only; unfold tl1; rw [hg]
  go_wp2_with fail
  exact ⟨rfl, Rds.err (by first | exact hE | rfl) (hK.turn hf).1.1⟩
 replace hK := hK.turn hf
 have hE : lineS l a0 2 = .ok ((x, 0, n, d), a3) := by unfold lineS; rw [if_neg (by decide), if_pos rfl]; unfold tl2; rw [HG0.out]; simp only; rw [HG1.out]; simp only; unfold tl1; rw [hg]
 have HG2 := Lib.hid hg
 clear hA hf hq hg
 obtain ⟨⟨kz0,kc0,kf0⟩,⟨kz1,kc1,kf1⟩,⟨kz2,kc2,kf2⟩,⟨kz3,kc3,kf3⟩,⟨kz4,kc4,kf4⟩,⟨kz5,kc5,kf5⟩,⟨kz6,kc6,kf6⟩,⟨kz7,kc7,kf7⟩,_⟩ := id hK.2
 have hA := hA1.put (b := W.heap.size + 1) (o := 0) (by omega) (by omega) (.int .i64 x)
 replace hK := hK.put (M := [(W.heap.size, 0, .int .i64 0), (W.heap.size, 1, .int .i64 0), (W.heap.size, 2, .int .i64 0), (W.heap.size, 3, .int .i64 0), (W.heap.size + 1, 0, .int .i64 x), (W.heap.size + 1, 1, .int .i64 0), (W.heap.size + 1, 2, .int .i64 n), (W.heap.size + 1, 3, .int .i64 d)]) (by omega) kc4 (.int .i64 x) (by simp [updL])
 clear hA1
 go_upto_region 10 with (fail)
 generalize w5.setCell ⟨W.heap.size + 1, 0, none⟩ (.int .i64 x) = w6 at *
 clear kz0 kc0 kf0 kz1 kc1 kf1 kz2 kc2 kf2 kz3 kc3 kf3 kz4 kc4 kf4 kz5 kc5 kf5 kz6 kc6 kf6 kz7 kc7 kf7
 obtain ⟨⟨kz0,kc0,kf0⟩,⟨kz1,kc1,kf1⟩,⟨kz2,kc2,kf2⟩,⟨kz3,kc3,kf3⟩,⟨kz4,kc4,kf4⟩,⟨kz5,kc5,kf5⟩,⟨kz6,kc6,kf6⟩,⟨kz7,kc7,kf7⟩,_⟩ := id hK.2
 go_wp2_with fail
 have hK7 := hK.put4 (M := [(W.heap.size, 0, .int .i64 x), (W.heap.size, 1, .int .i64 0), (W.heap.size, 2, .int .i64 n), (W.heap.size, 3, .int .i64 d), (W.heap.size + 1, 0, .int .i64 x), (W.heap.size + 1, 1, .int .i64 0), (W.heap.size + 1, 2, .int .i64 n), (W.heap.size + 1, 3, .int .i64 d)]) (by omega) kc0 kc1 kc2 kc3 (.int .i64 x) (.int .i64 0) (.int .i64 n) (.int .i64 d) (by simp [updL])
 have hA7 := hA.put4 (b := W.heap.size) (by omega) (by omega) (.int .i64 x) (.int .i64 0) (.int .i64 n) (.int .i64 d)
 clear hK hA kz0 kc0 kf0 kz1 kc1 kf1 kz2 kc2 kf2 kz3 kc3 kf3 kz4 kc4 kf4 kz5 kc5 kf5 kz6 kc6 kf6 kz7 kc7 kf7
 generalize (((w6.setCell ⟨W.heap.size, 0, none⟩ (.int .i64 x)).setCell ⟨W.heap.size, 1, none⟩ (.int .i64 0)).setCell ⟨W.heap.size, 2, none⟩ (.int .i64 n)).setCell ⟨W.heap.size, 3, none⟩ (.int .i64 d) = wz at *
 obtain ⟨⟨kz0,kc0,kf0⟩,⟨kz1,kc1,kf1⟩,⟨kz2,kc2,kf2⟩,⟨kz3,kc3,kf3⟩,⟨kz4,kc4,kf4⟩,⟨kz5,kc5,kf5⟩,⟨kz6,kc6,kf6⟩,⟨kz7,kc7,kf7⟩,_⟩ := id hK7.2
 refine bodyPost_ret (v := lnV x 0 n d) (by simp [results, Tryz.results157, go_sem, kc0, kc1, kc2, kc3]) rfl ?_
 first | exact Rds.ok hE hK7.1.1 rfl hA7 | exact Rds.ok rfl hK7.1.1 rfl hA7
set_option maxRecDepth 100000 in
set_option maxHeartbeats 4000000 in
theorem line3_any (l : List Int) (hl : l.length ≤ 1000000) (hb : ∀ z ∈ l, 0 ≤ z ∧ z < 256) (W0 : World) (B : Nat) (bv : Value) (a0 : Int) (W : World) (h : At W0 B bv l a0 W) :
  Calls Tryz.prog 157 #[.pointer (some ⟨B, 0, none⟩), .int .i64 3] W (Rds W0 B bv l W (fun x e _ => e = .returned (lnV x.1 x.2.1 x.2.2.1 x.2.2.2)) (lineS l a0 3)) := by
 have SG := Lib.hid (fun a W h => signed_any l hl hb W0 B bv a W h)
 have PL := Lib.hid (fun a W h => plain_any l hl hb W0 B bv a W h 0 281474976710656 (by omega))
 have hBW : B < W.heap.size := h.cs.1.1
 have hlow := h.low
 have hK : KF (fun k => k = B) W [(W.heap.size, 0, .int .i64 0), (W.heap.size, 1, .int .i64 0), (W.heap.size, 2, .int .i64 0), (W.heap.size, 3, .int .i64 0), (W.heap.size + 1, 0, .int .i64 0), (W.heap.size + 1, 1, .int .i64 0), (W.heap.size + 1, 2, .int .i64 0), (W.heap.size + 1, 3, .int .i64 1)] (fun k => k = B) ((W.alloc (.cells #[.int .i64 0, .int .i64 0, .int .i64 0, .int .i64 0] 24)).alloc (.cells #[.int .i64 0, .int .i64 0, .int .i64 0, .int .i64 1] 24)) :=
  KF.start ((below_alloc W _).trans ((below_alloc _ _).mono (below_alloc W _).size)) (by simp [Cells, go_sem]) (by simp; omega)
 have hA := (h.next (below_alloc W (.cells #[.int .i64 0, .int .i64 0, .int .i64 0, .int .i64 0] 24))).next (below_alloc _ (.cells #[.int .i64 0, .int .i64 0, .int .i64 0, .int .i64 1] 24))
 clear h hl hb
 go_enter Tryz.func157, Tryz.ntmps157
 go_wp2_with fail
 refine (PL.out a0 _ hA).mono ?_
 rintro e w1 hq
 obtain ⟨hf, ⟨c, hg, rfl⟩ | ⟨r, a1, hg, rfl, hA1⟩⟩ := hq.ways
 ·have hE : lineS l a0 3 = .error c := by unfold lineS; rw [if_pos rfl]; rw [hg]
  go_wp2_with fail
  exact ⟨rfl, Rds.err (by first | exact hE | rfl) (hK.turn hf).1.1⟩
 replace hK := hK.turn hf
 have HG0 := Lib.hid hg
 clear hA hf hq hg
 obtain ⟨⟨kz0,kc0,kf0⟩,⟨kz1,kc1,kf1⟩,⟨kz2,kc2,kf2⟩,⟨kz3,kc3,kf3⟩,⟨kz4,kc4,kf4⟩,⟨kz5,kc5,kf5⟩,⟨kz6,kc6,kf6⟩,⟨kz7,kc7,kf7⟩,_⟩ := id hK.2
 have hA := hA1.put (b := W.heap.size + 1) (o := 1) (by omega) (by omega) (.int .i64 r)
 replace hK := hK.put (M := [(W.heap.size, 0, .int .i64 0), (W.heap.size, 1, .int .i64 0), (W.heap.size, 2, .int .i64 0), (W.heap.size, 3, .int .i64 0), (W.heap.size + 1, 0, .int .i64 0), (W.heap.size + 1, 1, .int .i64 r), (W.heap.size + 1, 2, .int .i64 0), (W.heap.size + 1, 3, .int .i64 1)]) (by omega) kc5 (.int .i64 r) (by simp [updL])
 clear hA1
 go_wp2_with fail
 generalize w1.setCell ⟨W.heap.size + 1, 1, none⟩ (.int .i64 r) = w2 at *
 clear kz0 kc0 kf0 kz1 kc1 kf1 kz2 kc2 kf2 kz3 kc3 kf3 kz4 kc4 kf4 kz5 kc5 kf5 kz6 kc6 kf6 kz7 kc7 kf7
 refine (SG.out a1 _ hA).mono ?_
 rintro e w3 hq
 obtain ⟨hf, ⟨c, hg, rfl⟩ | ⟨n, a2, hg, rfl, hA1⟩⟩ := hq.ways
 ·have hE : lineS l a0 3 = .error c := by unfold lineS; rw [if_pos rfl]; rw [HG0.out]; simp only; unfold tl2; rw [hg]
  go_wp2_with fail
  exact ⟨rfl, Rds.err (by first | exact hE | rfl) (hK.turn hf).1.1⟩
 replace hK := hK.turn hf
 have HG1 := Lib.hid hg
 clear hA hf hq hg
 obtain ⟨⟨kz0,kc0,kf0⟩,⟨kz1,kc1,kf1⟩,⟨kz2,kc2,kf2⟩,⟨kz3,kc3,kf3⟩,⟨kz4,kc4,kf4⟩,⟨kz5,kc5,kf5⟩,⟨kz6,kc6,kf6⟩,⟨kz7,kc7,kf7⟩,_⟩ := id hK.2
 have hA := hA1.put (b := W.heap.size + 1) (o := 2) (by omega) (by omega) (.int .i64 n)
 replace hK := hK.put (M := [(W.heap.size, 0, .int .i64 0), (W.heap.size, 1, .int .i64 0), (W.heap.size, 2, .int .i64 0), (W.heap.size, 3, .int .i64 0), (W.heap.size + 1, 0, .int .i64 0), (W.heap.size + 1, 1, .int .i64 r), (W.heap.size + 1, 2, .int .i64 n), (W.heap.size + 1, 3, .int .i64 1)]) (by omega) kc6 (.int .i64 n) (by simp [updL])
 clear hA1
 go_wp2_with fail
 generalize w3.setCell ⟨W.heap.size + 1, 2, none⟩ (.int .i64 n) = w4 at *
 clear kz0 kc0 kf0 kz1 kc1 kf1 kz2 kc2 kf2 kz3 kc3 kf3 kz4 kc4 kf4 kz5 kc5 kf5 kz6 kc6 kf6 kz7 kc7 kf7
 refine (PL.out a2 _ hA).mono ?_
 rintro e w5 hq
 obtain ⟨hf, ⟨c, hg, rfl⟩ | ⟨d, a3, hg, rfl, hA1⟩⟩ := hq.ways
 ·have hE : lineS l a0 3 = .error c := by unfold lineS; rw [if_pos rfl]; rw [HG0.out]; simp only; unfold tl2; rw [HG1.out]; simp only; rw [hg]
  go_wp2_with fail
  exact ⟨rfl, Rds.err (by first | exact hE | rfl) (hK.turn hf).1.1⟩
 replace hK := hK.turn hf
 have HG2 := Lib.hid hg
 clear hA hf hq hg
 obtain ⟨⟨kz0,kc0,kf0⟩,⟨kz1,kc1,kf1⟩,⟨kz2,kc2,kf2⟩,⟨kz3,kc3,kf3⟩,⟨kz4,kc4,kf4⟩,⟨kz5,kc5,kf5⟩,⟨kz6,kc6,kf6⟩,⟨kz7,kc7,kf7⟩,_⟩ := id hK.2
 have hA := hA1.put (b := W.heap.size + 1) (o := 3) (by omega) (by omega) (.int .i64 d)
 replace hK := hK.put (M := [(W.heap.size, 0, .int .i64 0), (W.heap.size, 1, .int .i64 0), (W.heap.size, 2, .int .i64 0), (W.heap.size, 3, .int .i64 0), (W.heap.size + 1, 0, .int .i64 0), (W.heap.size + 1, 1, .int .i64 r), (W.heap.size + 1, 2, .int .i64 n), (W.heap.size + 1, 3, .int .i64 d)]) (by omega) kc7 (.int .i64 d) (by simp [updL])
 clear hA1
 go_wp2_with fail
 generalize w5.setCell ⟨W.heap.size + 1, 3, none⟩ (.int .i64 d) = w6 at *
 clear kz0 kc0 kf0 kz1 kc1 kf1 kz2 kc2 kf2 kz3 kc3 kf3 kz4 kc4 kf4 kz5 kc5 kf5 kz6 kc6 kf6 kz7 kc7 kf7
 refine (SG.out a3 _ hA).mono ?_
 rintro e w7 hq
 obtain ⟨hf, ⟨c, hg, rfl⟩ | ⟨x, a4, hg, rfl, hA1⟩⟩ := hq.ways
 ·have hE : lineS l a0 3 = .error c := by unfold lineS; rw [if_pos rfl]; rw [HG0.out]; simp only; unfold tl2; rw [HG1.out]; simp only; rw [HG2.out]; simp only; unfold tl1; rw [hg]
  go_wp2_with fail
  exact ⟨rfl, Rds.err (by first | exact hE | rfl) (hK.turn hf).1.1⟩
 replace hK := hK.turn hf
 have hE : lineS l a0 3 = .ok ((x, r, n, d), a4) := by unfold lineS; rw [if_pos rfl]; rw [HG0.out]; simp only; unfold tl2; rw [HG1.out]; simp only; rw [HG2.out]; simp only; unfold tl1; rw [hg]
 have HG3 := Lib.hid hg
 clear hA hf hq hg
 obtain ⟨⟨kz0,kc0,kf0⟩,⟨kz1,kc1,kf1⟩,⟨kz2,kc2,kf2⟩,⟨kz3,kc3,kf3⟩,⟨kz4,kc4,kf4⟩,⟨kz5,kc5,kf5⟩,⟨kz6,kc6,kf6⟩,⟨kz7,kc7,kf7⟩,_⟩ := id hK.2
 have hA := hA1.put (b := W.heap.size + 1) (o := 0) (by omega) (by omega) (.int .i64 x)
 replace hK := hK.put (M := [(W.heap.size, 0, .int .i64 0), (W.heap.size, 1, .int .i64 0), (W.heap.size, 2, .int .i64 0), (W.heap.size, 3, .int .i64 0), (W.heap.size + 1, 0, .int .i64 x), (W.heap.size + 1, 1, .int .i64 r), (W.heap.size + 1, 2, .int .i64 n), (W.heap.size + 1, 3, .int .i64 d)]) (by omega) kc4 (.int .i64 x) (by simp [updL])
 clear hA1
 go_upto_region 10 with (fail)
 generalize w7.setCell ⟨W.heap.size + 1, 0, none⟩ (.int .i64 x) = w8 at *
 clear kz0 kc0 kf0 kz1 kc1 kf1 kz2 kc2 kf2 kz3 kc3 kf3 kz4 kc4 kf4 kz5 kc5 kf5 kz6 kc6 kf6 kz7 kc7 kf7
 obtain ⟨⟨kz0,kc0,kf0⟩,⟨kz1,kc1,kf1⟩,⟨kz2,kc2,kf2⟩,⟨kz3,kc3,kf3⟩,⟨kz4,kc4,kf4⟩,⟨kz5,kc5,kf5⟩,⟨kz6,kc6,kf6⟩,⟨kz7,kc7,kf7⟩,_⟩ := id hK.2
 go_wp2_with fail
 have hK7 := hK.put4 (M := [(W.heap.size, 0, .int .i64 x), (W.heap.size, 1, .int .i64 r), (W.heap.size, 2, .int .i64 n), (W.heap.size, 3, .int .i64 d), (W.heap.size + 1, 0, .int .i64 x), (W.heap.size + 1, 1, .int .i64 r), (W.heap.size + 1, 2, .int .i64 n), (W.heap.size + 1, 3, .int .i64 d)]) (by omega) kc0 kc1 kc2 kc3 (.int .i64 x) (.int .i64 r) (.int .i64 n) (.int .i64 d) (by simp [updL])
 have hA7 := hA.put4 (b := W.heap.size) (by omega) (by omega) (.int .i64 x) (.int .i64 r) (.int .i64 n) (.int .i64 d)
 clear hK hA kz0 kc0 kf0 kz1 kc1 kf1 kz2 kc2 kf2 kz3 kc3 kf3 kz4 kc4 kf4 kz5 kc5 kf5 kz6 kc6 kf6 kz7 kc7 kf7
 generalize (((w8.setCell ⟨W.heap.size, 0, none⟩ (.int .i64 x)).setCell ⟨W.heap.size, 1, none⟩ (.int .i64 r)).setCell ⟨W.heap.size, 2, none⟩ (.int .i64 n)).setCell ⟨W.heap.size, 3, none⟩ (.int .i64 d) = wz at *
 obtain ⟨⟨kz0,kc0,kf0⟩,⟨kz1,kc1,kf1⟩,⟨kz2,kc2,kf2⟩,⟨kz3,kc3,kf3⟩,⟨kz4,kc4,kf4⟩,⟨kz5,kc5,kf5⟩,⟨kz6,kc6,kf6⟩,⟨kz7,kc7,kf7⟩,_⟩ := id hK7.2
 refine bodyPost_ret (v := lnV x r n d) (by simp [results, Tryz.results157, go_sem, kc0, kc1, kc2, kc3]) rfl ?_
 first | exact Rds.ok hE hK7.1.1 rfl hA7 | exact Rds.ok rfl hK7.1.1 rfl hA7
theorem line_any (l : List Int) (hl : l.length ≤ 1000000) (hb : ∀ z ∈ l, 0 ≤ z ∧ z < 256) (W0 : World) (B : Nat) (bv : Value) (a k : Int) (hk : k = 1 ∨ k = 2 ∨ k = 3) (W : World) (h : At W0 B bv l a W) :
  Calls Tryz.prog 157 #[.pointer (some ⟨B, 0, none⟩), .int .i64 k] W (Rds W0 B bv l W (fun x e _ => e = .returned (lnV x.1 x.2.1 x.2.2.1 x.2.2.2)) (lineS l a k)) := by
 rcases hk with rfl | rfl | rfl
 ·exact line1_any l hl hb W0 B bv a W h
 ·exact line2_any l hl hb W0 B bv a W h
 ·exact line3_any l hl hb W0 B bv a W h
end Go.Proofs.YtcfidimnbamnkaaGreat.P12

/-
 Layer 12: the program's reader: a segment. Conditions: those written at each fact.
-/
namespace Go.Proofs.YtcfidimnbamnkaaGreat.P12
open Go.RowKit Go.Shelf Go.Proofs.YtcfidimnbamnkaaGreat.P2 Go.Proofs.YtcfidimnbamnkaaGreat.P7 Go.Proofs.YtcfidimnbamnkaaGreat.P11

def finS (s : Sg) (a : Int) : Except Int (Sg × Int) := if segB s then .ok (s, a) else .error 7
def segS (l : List Int) (j : Nat) : Except Int (Sg × Int) := match kindS l j with
 | .error c => .error c
 | .ok (k, a1) => match gU l a1 0 1099511627776 with
  | .error c => .error c
  | .ok (e, a2) => match runsS l a2 with
   | .error c => .error c
   | .ok (R, a3) => if k = 4 then (match goV l (totalR R).toNat a3 0 [] with
    | .error c => .error c
    | .ok (V, a4) => finS ⟨4, R, 0, 0, 0, 0, V, e⟩ a4) else (match lineS l a3 k with
    | .error c => .error c
    | .ok (x, a4) => finS ⟨k, R, x.1, x.2.1, x.2.2.1, x.2.2.2, [], e⟩ a4)
theorem kindS_in {l : List Int} {j : Nat} {k a : Int} (h : kindS l j = .ok (k, a)) : 1 ≤ k ∧ k ≤ 4 ∧ a = (j : Int) + 1 := by
 unfold kindS at h
 split at h
 ·cases h
 ·split at h
  ·rename_i g
   cases h
   exact ⟨g.1, g.2, rfl⟩
  ·cases h
theorem runsS_ok {l : List Int} {a a' : Int} {R : List Rn} (h : runsS l a = .ok (R, a')) : okB R = true := by
 unfold runsS at h
 cases h1 : gU l a 1 256 with
 | error c => rw [h1] at h; cases h
 | ok p =>
  obtain ⟨m, a1⟩ := p
  rw [h1] at h
  simp only at h
  cases h2 : goR l m.toNat a1 0 [] with
  | error c => rw [h2] at h; cases h
  | ok q =>
   obtain ⟨L, a2⟩ := q
   rw [h2] at h
   simp only at h
   split at h
   ·cases h; assumption
   ·cases h
theorem KF.putL {X X' : Nat → Prop} {w W : World} {L M : List (Nat × Nat × Value)} {b : Nat} {a0 a1 a2 a3 : Value} (h : KF X w L X' W) (hb : w.heap.size ≤ b) (h0 : W.cell? ⟨b, 2, none⟩ = some a0) (h1 : W.cell? ⟨b, 3, none⟩ = some a1) (h2 : W.cell? ⟨b, 4, none⟩ = some a2) (h3 : W.cell? ⟨b, 5, none⟩ = some a3) (u0 u1 u2 u3 : Value) (hM : updL b 5 u3 (updL b 4 u2 (updL b 3 u1 (updL b 2 u0 L))) = M) : KF X w M X' ((((W.setCell ⟨b, 2, none⟩ u0).setCell ⟨b, 3, none⟩ u1).setCell ⟨b, 4, none⟩ u2).setCell ⟨b, 5, none⟩ u3) :=
 (((h.put hb h0 u0 rfl).put hb (off_cell (fun e => by cases e) h1) u1 rfl).put hb (off_cell (fun e => by cases e) (off_cell (fun e => by cases e) h2)) u2 rfl).put hb (off_cell (fun e => by cases e) (off_cell (fun e => by cases e) (off_cell (fun e => by cases e) h3))) u3 hM
theorem KF.put8 {X X' : Nat → Prop} {w W : World} {L M : List (Nat × Nat × Value)} {b : Nat} {a0 a1 a2 a3 a4 a5 a6 a7 : Value} (h : KF X w L X' W) (hb : w.heap.size ≤ b) (h0 : W.cell? ⟨b, 0, none⟩ = some a0) (h1 : W.cell? ⟨b, 1, none⟩ = some a1) (h2 : W.cell? ⟨b, 2, none⟩ = some a2) (h3 : W.cell? ⟨b, 3, none⟩ = some a3) (h4 : W.cell? ⟨b, 4, none⟩ = some a4) (h5 : W.cell? ⟨b, 5, none⟩ = some a5) (h6 : W.cell? ⟨b, 6, none⟩ = some a6) (h7 : W.cell? ⟨b, 7, none⟩ = some a7) (u0 u1 u2 u3 u4 u5 u6 u7 : Value) (hM : (updL b 7 u7 (updL b 6 u6 (updL b 5 u5 (updL b 4 u4 (updL b 3 u3 (updL b 2 u2 (updL b 1 u1 (updL b 0 u0 L)))))))) = M) : KF X w M X' ((((((((W.setCell ⟨b, 0, none⟩ u0).setCell ⟨b, 1, none⟩ u1).setCell ⟨b, 2, none⟩ u2).setCell ⟨b, 3, none⟩ u3).setCell ⟨b, 4, none⟩ u4).setCell ⟨b, 5, none⟩ u5).setCell ⟨b, 6, none⟩ u6).setCell ⟨b, 7, none⟩ u7) :=
 ((((((((h.put hb h0 u0 rfl).put hb (off_cell (fun e => by cases e) h1) u1 rfl).put hb (off_cell (fun e => by cases e) (off_cell (fun e => by cases e) h2)) u2 rfl).put hb (off_cell (fun e => by cases e) (off_cell (fun e => by cases e) (off_cell (fun e => by cases e) h3))) u3 rfl).put hb (off_cell (fun e => by cases e) (off_cell (fun e => by cases e) (off_cell (fun e => by cases e) (off_cell (fun e => by cases e) h4)))) u4 rfl).put hb (off_cell (fun e => by cases e) (off_cell (fun e => by cases e) (off_cell (fun e => by cases e) (off_cell (fun e => by cases e) (off_cell (fun e => by cases e) h5))))) u5 rfl).put hb (off_cell (fun e => by cases e) (off_cell (fun e => by cases e) (off_cell (fun e => by cases e) (off_cell (fun e => by cases e) (off_cell (fun e => by cases e) (off_cell (fun e => by cases e) h6)))))) u6 rfl).put hb (off_cell (fun e => by cases e) (off_cell (fun e => by cases e) (off_cell (fun e => by cases e) (off_cell (fun e => by cases e) (off_cell (fun e => by cases e) (off_cell (fun e => by cases e) (off_cell (fun e => by cases e) h7))))))) u7 hM)
theorem At.put8 {W0 W : World} {B b : Nat} {bv : Value} {l : List Int} {a : Int} (h : At W0 B bv l a W) (hb : W0.heap.size ≤ b) (hne : b ≠ B) (u0 u1 u2 u3 u4 u5 u6 u7 : Value) : At W0 B bv l a ((((((((W.setCell ⟨b, 0, none⟩ u0).setCell ⟨b, 1, none⟩ u1).setCell ⟨b, 2, none⟩ u2).setCell ⟨b, 3, none⟩ u3).setCell ⟨b, 4, none⟩ u4).setCell ⟨b, 5, none⟩ u5).setCell ⟨b, 6, none⟩ u6).setCell ⟨b, 7, none⟩ u7) :=
 ((((((((h.put hb hne u0).put hb hne u1).put hb hne u2).put hb hne u3).put hb hne u4).put hb hne u5).put hb hne u6).put hb hne u7)
theorem total_pos {R : List Rn} (h : ∀ r ∈ R, RunOk r) : 0 ≤ totalR R := by
 induction R with
 | nil => simp [totalR]
 | cons r R ih =>
  have h1 := (h r (List.mem_cons_self ..)).1
  have h2 := ih (fun x hx => h x (List.mem_cons_of_mem _ hx))
  simp only [totalR]
  omega
theorem goV_len' {l : List Int} : ∀ (n : Nat) (a v : Int) (acc V : List Int) (a' : Int), goV l n a v acc = .ok (V, a') → V.length = acc.length + n
 | 0, a, v, acc, V, a', h => by rw [goV] at h; cases h; rfl
 | n + 1, a, v, acc, V, a', h => by
  rw [goV] at h
  cases h1 : gS l a with
  | error c => rw [h1] at h; cases h
  | ok p =>
   obtain ⟨d, a1⟩ := p
   rw [h1] at h
   simp only at h
   split at h
   ·have := goV_len' n _ _ _ _ _ h
    simp only [List.length_append, List.length_singleton] at this
    omega
   ·cases h
theorem goV_len {l : List Int} {n : Nat} {a a' : Int} {V : List Int} (hn : n ≤ 256) (h : goV l n a 0 [] = .ok (V, a')) : V.length ≤ 1000000 := by
 have := goV_len' n _ _ _ _ _ h
 simp only [List.length_nil] at this
 omega
def GotG (W : World) (s : Sg) (e : Ending) (w' : World) : Prop := ∃ A n c A' n' c', e = .returned (sgV s.k (.slice A n c) s.a s.r s.n s.d (.slice A' n' c') s.e) ∧ w'.ownsRow W.heap.size 44 3 (.slice A n c) s.R.length (flatR s.R) ∧ w'.ownsRow W.heap.size 2 1 (.slice A' n' c') s.V.length (s.V.map (Value.int .i64))
theorem nil_own (w : World) (B : Nat) (ty : TypeId) (s : Nat) : w.ownsRow B ty s (.slice none 0 0) 0 [] := ⟨by simp, .inl ⟨rfl, rfl⟩⟩
set_option maxRecDepth 100000 in
set_option maxHeartbeats 8000000 in
theorem segment_any (l : List Int) (hl : l.length ≤ 1000000) (hb : ∀ z ∈ l, 0 ≤ z ∧ z < 256) (W0 : World) (B : Nat) (bv : Value) (j : Nat) (hj : j ≤ l.length) (W : World) (h : At W0 B bv l (j : Int) W) :
  Calls Tryz.prog 104 #[.pointer (some ⟨B, 0, none⟩)] W (Rds W0 B bv l W (GotG W) (segS l j)) := by
 have KD := Lib.hid (fun W h => kind_any l hl hb W0 B bv j hj W h)
 have PL := Lib.hid (fun a W h => plain_any l hl hb W0 B bv a W h 0 1099511627776 (by omega))
 have RR := Lib.hid (fun a W h => rruns_any l hl hb W0 B bv a W h)
 have RV := Lib.hid (fun a M hM W h => rraw_any l hl hb W0 B bv a M hM W h)
 have LN := Lib.hid (fun a k hk W h => line_any l hl hb W0 B bv a k hk W h)
 have UT := Lib.hid (unless_true 7)
 have UF := Lib.hid (unless_false 7)
 have hBW : B < W.heap.size := h.cs.1.1
 have hlow := h.low
 have hK : KF (fun k => k = B) W [(W.heap.size, 0, .int .i64 0), (W.heap.size, 1, .slice none 0 0), (W.heap.size, 2, .int .i64 0), (W.heap.size, 3, .int .i64 0), (W.heap.size, 4, .int .i64 0), (W.heap.size, 5, .int .i64 0), (W.heap.size, 6, .slice none 0 0), (W.heap.size, 7, .int .i64 0), (W.heap.size + 1, 0, .int .i64 0), (W.heap.size + 1, 1, .slice none 0 0), (W.heap.size + 1, 2, .int .i64 0), (W.heap.size + 1, 3, .int .i64 0), (W.heap.size + 1, 4, .int .i64 0), (W.heap.size + 1, 5, .int .i64 0), (W.heap.size + 1, 6, .slice none 0 0), (W.heap.size + 1, 7, .int .i64 0)] (fun k => k = B) ((W.alloc (.cells #[.int .i64 0, .slice none 0 0, .int .i64 0, .int .i64 0, .int .i64 0, .int .i64 0, .slice none 0 0, .int .i64 0] 27)).alloc (.cells #[.int .i64 0, .slice none 0 0, .int .i64 0, .int .i64 0, .int .i64 0, .int .i64 0, .slice none 0 0, .int .i64 0] 27)) :=
  KF.start ((below_alloc W _).trans ((below_alloc _ _).mono (below_alloc W _).size)) (by simp [Cells, go_sem]) (by simp; omega)
 have hA := (h.next (below_alloc W (.cells #[.int .i64 0, .slice none 0 0, .int .i64 0, .int .i64 0, .int .i64 0, .int .i64 0, .slice none 0 0, .int .i64 0] 27))).next (below_alloc _ (.cells #[.int .i64 0, .slice none 0 0, .int .i64 0, .int .i64 0, .int .i64 0, .int .i64 0, .slice none 0 0, .int .i64 0] 27))
 clear h hl hb hj
 go_enter Tryz.func104, Tryz.ntmps104
 go_wp2_with fail
 refine (KD.out _ hA).mono ?_
 rintro e w1 hq
 obtain ⟨hf, ⟨c, hg, rfl⟩ | ⟨k, a1, hg, rfl, hA1⟩⟩ := hq.ways
 ·have hE : segS l j = .error c := by unfold segS; rw [hg]
  go_wp2_with fail
  exact ⟨rfl, Rds.err (by first | exact hE | rfl) (hK.turn hf).1.1⟩
 replace hK := hK.turn hf
 obtain ⟨hk1, hk4, rfl⟩ := kindS_in hg
 have HG0 := Lib.hid hg
 clear hA hf hq hg
 obtain ⟨⟨kz0,kc0,kf0⟩,⟨kz1,kc1,kf1⟩,⟨kz2,kc2,kf2⟩,⟨kz3,kc3,kf3⟩,⟨kz4,kc4,kf4⟩,⟨kz5,kc5,kf5⟩,⟨kz6,kc6,kf6⟩,⟨kz7,kc7,kf7⟩,⟨kz8,kc8,kf8⟩,⟨kz9,kc9,kf9⟩,⟨kz10,kc10,kf10⟩,⟨kz11,kc11,kf11⟩,⟨kz12,kc12,kf12⟩,⟨kz13,kc13,kf13⟩,⟨kz14,kc14,kf14⟩,⟨kz15,kc15,kf15⟩,_⟩ := id hK.2
 have hA := hA1.put (b := W.heap.size + 1) (o := 0) (by omega) (by omega) (.int .i64 k)
 replace hK := hK.put (M := [(W.heap.size, 0, .int .i64 0), (W.heap.size, 1, .slice none 0 0), (W.heap.size, 2, .int .i64 0), (W.heap.size, 3, .int .i64 0), (W.heap.size, 4, .int .i64 0), (W.heap.size, 5, .int .i64 0), (W.heap.size, 6, .slice none 0 0), (W.heap.size, 7, .int .i64 0), (W.heap.size + 1, 0, .int .i64 k), (W.heap.size + 1, 1, .slice none 0 0), (W.heap.size + 1, 2, .int .i64 0), (W.heap.size + 1, 3, .int .i64 0), (W.heap.size + 1, 4, .int .i64 0), (W.heap.size + 1, 5, .int .i64 0), (W.heap.size + 1, 6, .slice none 0 0), (W.heap.size + 1, 7, .int .i64 0)]) (by omega) kc8 (.int .i64 k) (by simp [updL])
 clear hA1
 go_wp2_with fail
 generalize w1.setCell ⟨W.heap.size + 1, 0, none⟩ (.int .i64 k) = w2 at *
 clear kz0 kc0 kf0 kz1 kc1 kf1 kz2 kc2 kf2 kz3 kc3 kf3 kz4 kc4 kf4 kz5 kc5 kf5 kz6 kc6 kf6 kz7 kc7 kf7 kz8 kc8 kf8 kz9 kc9 kf9 kz10 kc10 kf10 kz11 kc11 kf11 kz12 kc12 kf12 kz13 kc13 kf13 kz14 kc14 kf14 kz15 kc15 kf15
 refine (PL.out _ _ hA).mono ?_
 rintro e w3 hq
 obtain ⟨hf, ⟨c, hg, rfl⟩ | ⟨ee, a2, hg, rfl, hA1⟩⟩ := hq.ways
 ·have hE : segS l j = .error c := by unfold segS; rw [HG0.out]; simp only; rw [hg]
  go_wp2_with fail
  exact ⟨rfl, Rds.err (by first | exact hE | rfl) (hK.turn hf).1.1⟩
 replace hK := hK.turn hf
 have HG1 := Lib.hid hg
 clear hA hf hq hg
 obtain ⟨⟨kz0,kc0,kf0⟩,⟨kz1,kc1,kf1⟩,⟨kz2,kc2,kf2⟩,⟨kz3,kc3,kf3⟩,⟨kz4,kc4,kf4⟩,⟨kz5,kc5,kf5⟩,⟨kz6,kc6,kf6⟩,⟨kz7,kc7,kf7⟩,⟨kz8,kc8,kf8⟩,⟨kz9,kc9,kf9⟩,⟨kz10,kc10,kf10⟩,⟨kz11,kc11,kf11⟩,⟨kz12,kc12,kf12⟩,⟨kz13,kc13,kf13⟩,⟨kz14,kc14,kf14⟩,⟨kz15,kc15,kf15⟩,_⟩ := id hK.2
 have hA := hA1.put (b := W.heap.size + 1) (o := 7) (by omega) (by omega) (.int .i64 ee)
 replace hK := hK.put (M := [(W.heap.size, 0, .int .i64 0), (W.heap.size, 1, .slice none 0 0), (W.heap.size, 2, .int .i64 0), (W.heap.size, 3, .int .i64 0), (W.heap.size, 4, .int .i64 0), (W.heap.size, 5, .int .i64 0), (W.heap.size, 6, .slice none 0 0), (W.heap.size, 7, .int .i64 0), (W.heap.size + 1, 0, .int .i64 k), (W.heap.size + 1, 1, .slice none 0 0), (W.heap.size + 1, 2, .int .i64 0), (W.heap.size + 1, 3, .int .i64 0), (W.heap.size + 1, 4, .int .i64 0), (W.heap.size + 1, 5, .int .i64 0), (W.heap.size + 1, 6, .slice none 0 0), (W.heap.size + 1, 7, .int .i64 ee)]) (by omega) kc15 (.int .i64 ee) (by simp [updL])
 clear hA1
 go_wp2_with fail
 generalize w3.setCell ⟨W.heap.size + 1, 7, none⟩ (.int .i64 ee) = w4 at *
 clear kz0 kc0 kf0 kz1 kc1 kf1 kz2 kc2 kf2 kz3 kc3 kf3 kz4 kc4 kf4 kz5 kc5 kf5 kz6 kc6 kf6 kz7 kc7 kf7 kz8 kc8 kf8 kz9 kc9 kf9 kz10 kc10 kf10 kz11 kc11 kf11 kz12 kc12 kf12 kz13 kc13 kf13 kz14 kc14 kf14 kz15 kc15 kf15
 have hs4 : W.heap.size + 1 < w4.heap.size := hK.2.2.2.2.2.2.2.2.2.1.1
 refine (RR.out _ _ hA).mono ?_
 rintro e w5 hq
 obtain ⟨hf,⟨c,hg,rfl⟩ | ⟨R,_,hg,⟨Ar,nr,cr,rfl,hO⟩,hA1⟩⟩ := hq.ways
 ·have hE : segS l j = .error c := by unfold segS; rw [HG0.out]; simp only; rw [HG1.out]; simp only; rw [hg]
  go_wp2_with fail
  exact ⟨rfl, Rds.err (by first | exact hE | rfl) (hK.turn hf).1.1⟩
 replace hK := hK.turn hf
 have hok := runsS_ok hg
 have HG2 := Lib.hid hg
 have HO := Lib.hid hO
 have HR : Hid (∃ nr', nr = nr' ∧ R.length = nr) := Lib.hid (by obtain ⟨A2, c2, e2, _, _⟩ := readR_own hO; cases e2; exact ⟨_, rfl, rfl⟩)
 clear hA hf hq hg hO
 obtain ⟨⟨kz0,kc0,kf0⟩,⟨kz1,kc1,kf1⟩,⟨kz2,kc2,kf2⟩,⟨kz3,kc3,kf3⟩,⟨kz4,kc4,kf4⟩,⟨kz5,kc5,kf5⟩,⟨kz6,kc6,kf6⟩,⟨kz7,kc7,kf7⟩,⟨kz8,kc8,kf8⟩,⟨kz9,kc9,kf9⟩,⟨kz10,kc10,kf10⟩,⟨kz11,kc11,kf11⟩,⟨kz12,kc12,kf12⟩,⟨kz13,kc13,kf13⟩,⟨kz14,kc14,kf14⟩,⟨kz15,kc15,kf15⟩,_⟩ := id hK.2
 have hA := hA1.put (b := W.heap.size + 1) (o := 1) (by omega) (by omega) (.slice Ar nr cr)
 replace hK := hK.put (M := [(W.heap.size, 0, .int .i64 0), (W.heap.size, 1, .slice none 0 0), (W.heap.size, 2, .int .i64 0), (W.heap.size, 3, .int .i64 0), (W.heap.size, 4, .int .i64 0), (W.heap.size, 5, .int .i64 0), (W.heap.size, 6, .slice none 0 0), (W.heap.size, 7, .int .i64 0), (W.heap.size + 1, 0, .int .i64 k), (W.heap.size + 1, 1, .slice Ar nr cr), (W.heap.size + 1, 2, .int .i64 0), (W.heap.size + 1, 3, .int .i64 0), (W.heap.size + 1, 4, .int .i64 0), (W.heap.size + 1, 5, .int .i64 0), (W.heap.size + 1, 6, .slice none 0 0), (W.heap.size + 1, 7, .int .i64 ee)]) (by omega) kc9 (.slice Ar nr cr) (by simp [updL])
 replace HO := Lib.hid (P7.owns_low (i := 1) HO.out (g := W.heap.size + 1) (by omega) (.slice Ar nr cr))
 clear hA1
 go_upto_region 5 with (fail)
 generalize w5.setCell ⟨W.heap.size + 1, 1, none⟩ (.slice Ar nr cr) = w6 at *
 clear kz0 kc0 kf0 kz1 kc1 kf1 kz2 kc2 kf2 kz3 kc3 kf3 kz4 kc4 kf4 kz5 kc5 kf5 kz6 kc6 kf6 kz7 kc7 kf7 kz8 kc8 kf8 kz9 kc9 kf9 kz10 kc10 kf10 kz11 kc11 kf11 kz12 kc12 kf12 kz13 kc13 kf13 kz14 kc14 kf14 kz15 kc15 kf15
 obtain ⟨⟨kz0,kc0,kf0⟩,⟨kz1,kc1,kf1⟩,⟨kz2,kc2,kf2⟩,⟨kz3,kc3,kf3⟩,⟨kz4,kc4,kf4⟩,⟨kz5,kc5,kf5⟩,⟨kz6,kc6,kf6⟩,⟨kz7,kc7,kf7⟩,⟨kz8,kc8,kf8⟩,⟨kz9,kc9,kf9⟩,⟨kz10,kc10,kf10⟩,⟨kz11,kc11,kf11⟩,⟨kz12,kc12,kf12⟩,⟨kz13,kc13,kf13⟩,⟨kz14,kc14,kf14⟩,⟨kz15,kc15,kf15⟩,_⟩ := id hK.2
 obtain ⟨_, hRo, hRt, hRl⟩ := P7.okB_facts hok
 by_cases g4 : k = 4
 ·subst g4
  obtain ⟨M, hM⟩ : ∃ M : Nat, totalR R = (M : Int) := ⟨(totalR R).toNat, by have := total_pos hRo; omega⟩
  have CN := P7.cntA_any R (by omega) _ w6 (readR_own HO.out)
  rw [hok, if_pos rfl, hM] at CN
  have hM4 : M ≤ 256 := by omega
  go_wp2_with fail
  refine CN.mono ?_
  rintro e w7 ⟨rfl, hb7⟩
  replace hK := hK.next hb7
  replace hA := hA.next hb7
  replace HO := Lib.hid (owns_below HO.out hb7)
  clear kz0 kc0 kf0 kz1 kc1 kf1 kz2 kc2 kf2 kz3 kc3 kf3 kz4 kc4 kf4 kz5 kc5 kf5 kz6 kc6 kf6 kz7 kc7 kf7 kz8 kc8 kf8 kz9 kc9 kf9 kz10 kc10 kf10 kz11 kc11 kf11 kz12 kc12 kf12 kz13 kc13 kf13 kz14 kc14 kf14 kz15 kc15 kf15 hb7 CN
  have hs7 : W.heap.size + 1 < w7.heap.size := hK.2.2.2.2.2.2.2.2.2.1.1
  go_wp2_with fail
  refine (RV.out _ M hM4 _ hA).mono ?_
  rintro e w8 hq
  obtain ⟨hf,⟨c,hg,rfl⟩ | ⟨V,a4,hg,⟨Av,_,cv,rfl,hV⟩,hA1⟩⟩ := hq.ways
  ·have hE : segS l j = .error c := by unfold segS; rw [HG0.out]; simp only; rw [HG1.out]; simp only; rw [HG2.out]; simp only; rw [if_pos (by trivial), hM, Int.toNat_natCast, hg]
   go_wp2_with fail
   exact ⟨rfl, Rds.err (by first | exact hE | rfl) (hK.turn hf).1.1⟩
  replace hK := hK.turn hf
  have HG3 := Lib.hid hg
  have HV := Lib.hid hV
  replace HO := Lib.hid (own_fr HO.out hf (fun k hk => by omega))
  have hVl : V.length ≤ 1000000 := goV_len hM4 hg
  obtain ⟨A2, c2, e2, _, _⟩ := reads_own (k := .i64) hV
  cases e2
  clear hA hf hq hg hV
  obtain ⟨⟨kz0,kc0,kf0⟩,⟨kz1,kc1,kf1⟩,⟨kz2,kc2,kf2⟩,⟨kz3,kc3,kf3⟩,⟨kz4,kc4,kf4⟩,⟨kz5,kc5,kf5⟩,⟨kz6,kc6,kf6⟩,⟨kz7,kc7,kf7⟩,⟨kz8,kc8,kf8⟩,⟨kz9,kc9,kf9⟩,⟨kz10,kc10,kf10⟩,⟨kz11,kc11,kf11⟩,⟨kz12,kc12,kf12⟩,⟨kz13,kc13,kf13⟩,⟨kz14,kc14,kf14⟩,⟨kz15,kc15,kf15⟩,_⟩ := id hK.2
  have hA := hA1.put (b := W.heap.size + 1) (o := 6) (by omega) (by omega) (.slice Av V.length cv)
  replace hK := hK.put (M := [(W.heap.size, 0, .int .i64 0), (W.heap.size, 1, .slice none 0 0), (W.heap.size, 2, .int .i64 0), (W.heap.size, 3, .int .i64 0), (W.heap.size, 4, .int .i64 0), (W.heap.size, 5, .int .i64 0), (W.heap.size, 6, .slice none 0 0), (W.heap.size, 7, .int .i64 0), (W.heap.size + 1, 0, .int .i64 4), (W.heap.size + 1, 1, .slice Ar nr cr), (W.heap.size + 1, 2, .int .i64 0), (W.heap.size + 1, 3, .int .i64 0), (W.heap.size + 1, 4, .int .i64 0), (W.heap.size + 1, 5, .int .i64 0), (W.heap.size + 1, 6, .slice Av V.length cv), (W.heap.size + 1, 7, .int .i64 ee)]) (by omega) kc14 (.slice Av V.length cv) (by simp [updL])
  replace HO := Lib.hid (P7.owns_low (i := 6) HO.out (g := W.heap.size + 1) (by omega) (.slice Av V.length cv))
  replace HV := Lib.hid (P7.owns_low (i := 6) HV.out (g := W.heap.size + 1) (by omega) (.slice Av V.length cv))
  clear hA1
  go_upto_region 8 with (fail)
  generalize w8.setCell ⟨W.heap.size + 1, 6, none⟩ (.slice Av V.length cv) = wq at *
  clear kz0 kc0 kf0 kz1 kc1 kf1 kz2 kc2 kf2 kz3 kc3 kf3 kz4 kc4 kf4 kz5 kc5 kf5 kz6 kc6 kf6 kz7 kc7 kf7 kz8 kc8 kf8 kz9 kc9 kf9 kz10 kc10 kf10 kz11 kc11 kf11 kz12 kc12 kf12 kz13 kc13 kf13 kz14 kc14 kf14 kz15 kc15 kf15
  obtain ⟨⟨kz0,kc0,kf0⟩,⟨kz1,kc1,kf1⟩,⟨kz2,kc2,kf2⟩,⟨kz3,kc3,kf3⟩,⟨kz4,kc4,kf4⟩,⟨kz5,kc5,kf5⟩,⟨kz6,kc6,kf6⟩,⟨kz7,kc7,kf7⟩,⟨kz8,kc8,kf8⟩,⟨kz9,kc9,kf9⟩,⟨kz10,kc10,kf10⟩,⟨kz11,kc11,kf11⟩,⟨kz12,kc12,kf12⟩,⟨kz13,kc13,kf13⟩,⟨kz14,kc14,kf14⟩,⟨kz15,kc15,kf15⟩,_⟩ := id hK.2
  have CK := P11.check_any ⟨4, R, 0, 0, 0, 0, V, ee⟩ (by simp only; omega) hVl _ _ wq (readR_own HO.out) (reads_own (k := .i64) HV.out)
  have hE : segS l j = finS ⟨4, R, 0, 0, 0, 0, V, ee⟩ a4 := by unfold segS; rw [HG0.out]; simp only; rw [HG1.out]; simp only; rw [HG2.out]; simp only; rw [if_pos (by trivial), hM, Int.toNat_natCast, HG3.out]
  unfold finS at hE
  cases gs : segB ⟨4, R, 0, 0, 0, 0, V, ee⟩
  ·rw [gs] at CK hE
   simp only [Bool.false_eq_true, if_false] at CK hE
   go_wp2_with fail
   refine CK.mono ?_
   rintro e w9 ⟨rfl, hb9⟩
   go_wp2_with fail
   refine (UF.out _).mono ?_
   rintro e w10 ⟨rfl, hb10⟩
   go_wp2_with fail
   exact ⟨rfl, Rds.err (by first | exact hE | rfl) ((hK.next hb9).next hb10).1.1⟩
  ·rw [gs] at CK hE
   simp only [if_true] at CK hE
   go_wp2_with fail
   refine CK.mono ?_
   rintro e w9 ⟨rfl, hb9⟩
   replace hK := hK.next hb9
   replace hA := hA.next hb9
   replace HO := Lib.hid (owns_below HO.out hb9)
   replace HV := Lib.hid (owns_below HV.out hb9)
   clear kz0 kc0 kf0 kz1 kc1 kf1 kz2 kc2 kf2 kz3 kc3 kf3 kz4 kc4 kf4 kz5 kc5 kf5 kz6 kc6 kf6 kz7 kc7 kf7 kz8 kc8 kf8 kz9 kc9 kf9 kz10 kc10 kf10 kz11 kc11 kf11 kz12 kc12 kf12 kz13 kc13 kf13 kz14 kc14 kf14 kz15 kc15 kf15
   obtain ⟨⟨kz0,kc0,kf0⟩,⟨kz1,kc1,kf1⟩,⟨kz2,kc2,kf2⟩,⟨kz3,kc3,kf3⟩,⟨kz4,kc4,kf4⟩,⟨kz5,kc5,kf5⟩,⟨kz6,kc6,kf6⟩,⟨kz7,kc7,kf7⟩,⟨kz8,kc8,kf8⟩,⟨kz9,kc9,kf9⟩,⟨kz10,kc10,kf10⟩,⟨kz11,kc11,kf11⟩,⟨kz12,kc12,kf12⟩,⟨kz13,kc13,kf13⟩,⟨kz14,kc14,kf14⟩,⟨kz15,kc15,kf15⟩,_⟩ := id hK.2
   clear hb9
   go_wp2_with fail
   refine (UT.out _).mono ?_
   rintro e w10 ⟨rfl, hb10⟩
   replace hK := hK.next hb10
   replace hA := hA.next hb10
   replace HO := Lib.hid (owns_below HO.out hb10)
   replace HV := Lib.hid (owns_below HV.out hb10)
   clear kz0 kc0 kf0 kz1 kc1 kf1 kz2 kc2 kf2 kz3 kc3 kf3 kz4 kc4 kf4 kz5 kc5 kf5 kz6 kc6 kf6 kz7 kc7 kf7 kz8 kc8 kf8 kz9 kc9 kf9 kz10 kc10 kf10 kz11 kc11 kf11 kz12 kc12 kf12 kz13 kc13 kf13 kz14 kc14 kf14 kz15 kc15 kf15
   obtain ⟨⟨kz0,kc0,kf0⟩,⟨kz1,kc1,kf1⟩,⟨kz2,kc2,kf2⟩,⟨kz3,kc3,kf3⟩,⟨kz4,kc4,kf4⟩,⟨kz5,kc5,kf5⟩,⟨kz6,kc6,kf6⟩,⟨kz7,kc7,kf7⟩,⟨kz8,kc8,kf8⟩,⟨kz9,kc9,kf9⟩,⟨kz10,kc10,kf10⟩,⟨kz11,kc11,kf11⟩,⟨kz12,kc12,kf12⟩,⟨kz13,kc13,kf13⟩,⟨kz14,kc14,kf14⟩,⟨kz15,kc15,kf15⟩,_⟩ := id hK.2
   clear hb10
   go_wp2_with fail
   have hK7 := hK.put8 (M := [(W.heap.size, 0, .int .i64 4), (W.heap.size, 1, .slice Ar nr cr), (W.heap.size, 2, .int .i64 0), (W.heap.size, 3, .int .i64 0), (W.heap.size, 4, .int .i64 0), (W.heap.size, 5, .int .i64 0), (W.heap.size, 6, .slice Av V.length cv), (W.heap.size, 7, .int .i64 ee), (W.heap.size + 1, 0, .int .i64 4), (W.heap.size + 1, 1, .slice Ar nr cr), (W.heap.size + 1, 2, .int .i64 0), (W.heap.size + 1, 3, .int .i64 0), (W.heap.size + 1, 4, .int .i64 0), (W.heap.size + 1, 5, .int .i64 0), (W.heap.size + 1, 6, .slice Av V.length cv), (W.heap.size + 1, 7, .int .i64 ee)]) (by omega) kc0 kc1 kc2 kc3 kc4 kc5 kc6 kc7 (.int .i64 4) (.slice Ar nr cr) (.int .i64 0) (.int .i64 0) (.int .i64 0) (.int .i64 0) (.slice Av V.length cv) (.int .i64 ee) (by simp [updL])
   have hA7 := hA.put8 (b := W.heap.size) (by omega) (by omega) (.int .i64 4) (.slice Ar nr cr) (.int .i64 0) (.int .i64 0) (.int .i64 0) (.int .i64 0) (.slice Av V.length cv) (.int .i64 ee)
   have HO7 := Lib.hid (owns8 (B := W.heap.size) (B' := W.heap.size) HO.out (by omega) (by omega) (.int .i64 4) (.slice Ar nr cr) (.int .i64 0) (.int .i64 0) (.int .i64 0) (.int .i64 0) (.slice Av V.length cv) (.int .i64 ee))
   have HV7 := Lib.hid (owns8 (B := W.heap.size) (B' := W.heap.size) HV.out (by omega) (by omega) (.int .i64 4) (.slice Ar nr cr) (.int .i64 0) (.int .i64 0) (.int .i64 0) (.int .i64 0) (.slice Av V.length cv) (.int .i64 ee))
   clear hK hA HO HV kz0 kc0 kf0 kz1 kc1 kf1 kz2 kc2 kf2 kz3 kc3 kf3 kz4 kc4 kf4 kz5 kc5 kf5 kz6 kc6 kf6 kz7 kc7 kf7 kz8 kc8 kf8 kz9 kc9 kf9 kz10 kc10 kf10 kz11 kc11 kf11 kz12 kc12 kf12 kz13 kc13 kf13 kz14 kc14 kf14 kz15 kc15 kf15
   generalize (((((((w10.setCell ⟨W.heap.size, 0, none⟩ (.int .i64 4)).setCell ⟨W.heap.size, 1, none⟩ (.slice Ar nr cr)).setCell ⟨W.heap.size, 2, none⟩ (.int .i64 0)).setCell ⟨W.heap.size, 3, none⟩ (.int .i64 0)).setCell ⟨W.heap.size, 4, none⟩ (.int .i64 0)).setCell ⟨W.heap.size, 5, none⟩ (.int .i64 0)).setCell ⟨W.heap.size, 6, none⟩ (.slice Av V.length cv)).setCell ⟨W.heap.size, 7, none⟩ (.int .i64 ee) = wz at *
   obtain ⟨⟨kz0,kc0,kf0⟩,⟨kz1,kc1,kf1⟩,⟨kz2,kc2,kf2⟩,⟨kz3,kc3,kf3⟩,⟨kz4,kc4,kf4⟩,⟨kz5,kc5,kf5⟩,⟨kz6,kc6,kf6⟩,⟨kz7,kc7,kf7⟩,⟨kz8,kc8,kf8⟩,⟨kz9,kc9,kf9⟩,⟨kz10,kc10,kf10⟩,⟨kz11,kc11,kf11⟩,⟨kz12,kc12,kf12⟩,⟨kz13,kc13,kf13⟩,⟨kz14,kc14,kf14⟩,⟨kz15,kc15,kf15⟩,_⟩ := id hK7.2
   refine bodyPost_ret (v := .agg #[.int .i64 4, .slice Ar nr cr, .int .i64 0, .int .i64 0, .int .i64 0, .int .i64 0, .slice Av V.length cv, .int .i64 ee]) (by simp [results, Tryz.results104, go_sem, kc0, kc1, kc2, kc3, kc4, kc5, kc6, kc7]) rfl ?_
   first | exact Rds.ok hE hK7.1.1 ⟨_, _, _, _, _, _, rfl, HO7.out, HV7.out⟩ hA7 | exact Rds.ok rfl hK7.1.1 ⟨_, _, _, _, _, _, rfl, HO7.out, HV7.out⟩ hA7
 ·have hk3 : k = 1 ∨ k = 2 ∨ k = 3 := by omega
  have t4 : (k == 4) = false := by simpa using g4
  go_wp2_with fail
  clear kz0 kc0 kf0 kz1 kc1 kf1 kz2 kc2 kf2 kz3 kc3 kf3 kz4 kc4 kf4 kz5 kc5 kf5 kz6 kc6 kf6 kz7 kc7 kf7 kz8 kc8 kf8 kz9 kc9 kf9 kz10 kc10 kf10 kz11 kc11 kf11 kz12 kc12 kf12 kz13 kc13 kf13 kz14 kc14 kf14 kz15 kc15 kf15
  refine (LN.out _ k hk3 _ hA).mono ?_
  rintro e w8 hq
  obtain ⟨hf, ⟨c, hg, rfl⟩ | ⟨⟨xa, xr, xn, xd⟩, a4, hg, rfl, hA1⟩⟩ := hq.ways
  ·have hE : segS l j = .error c := by unfold segS; rw [HG0.out]; simp only; rw [HG1.out]; simp only; rw [HG2.out]; simp only; rw [if_neg g4, hg]
   go_wp2_with fail
   exact ⟨rfl, Rds.err (by first | exact hE | rfl) (hK.turn hf).1.1⟩
  replace hK := hK.turn hf
  have HG3 := Lib.hid hg
  replace HO := Lib.hid (own_fr HO.out hf (fun k hk => by omega))
  clear hA hf hq hg
  obtain ⟨⟨kz0,kc0,kf0⟩,⟨kz1,kc1,kf1⟩,⟨kz2,kc2,kf2⟩,⟨kz3,kc3,kf3⟩,⟨kz4,kc4,kf4⟩,⟨kz5,kc5,kf5⟩,⟨kz6,kc6,kf6⟩,⟨kz7,kc7,kf7⟩,⟨kz8,kc8,kf8⟩,⟨kz9,kc9,kf9⟩,⟨kz10,kc10,kf10⟩,⟨kz11,kc11,kf11⟩,⟨kz12,kc12,kf12⟩,⟨kz13,kc13,kf13⟩,⟨kz14,kc14,kf14⟩,⟨kz15,kc15,kf15⟩,_⟩ := id hK.2
  have hA := ((((hA1.put (b := W.heap.size + 1) (o := 2) (by omega) (by omega) (.int .i64 xa)).put (b := W.heap.size + 1) (o := 3) (by omega) (by omega) (.int .i64 xr)).put (b := W.heap.size + 1) (o := 4) (by omega) (by omega) (.int .i64 xn)).put (b := W.heap.size + 1) (o := 5) (by omega) (by omega) (.int .i64 xd))
  replace hK := hK.putL (M := [(W.heap.size, 0, .int .i64 0), (W.heap.size, 1, .slice none 0 0), (W.heap.size, 2, .int .i64 0), (W.heap.size, 3, .int .i64 0), (W.heap.size, 4, .int .i64 0), (W.heap.size, 5, .int .i64 0), (W.heap.size, 6, .slice none 0 0), (W.heap.size, 7, .int .i64 0), (W.heap.size + 1, 0, .int .i64 k), (W.heap.size + 1, 1, .slice Ar nr cr), (W.heap.size + 1, 2, .int .i64 xa), (W.heap.size + 1, 3, .int .i64 xr), (W.heap.size + 1, 4, .int .i64 xn), (W.heap.size + 1, 5, .int .i64 xd), (W.heap.size + 1, 6, .slice none 0 0), (W.heap.size + 1, 7, .int .i64 ee)]) (by omega) kc10 kc11 kc12 kc13 (.int .i64 xa) (.int .i64 xr) (.int .i64 xn) (.int .i64 xd) (by simp [updL])
  replace HO := Lib.hid (P7.owns_low (i := 5) (P7.owns_low (i := 4) (P7.owns_low (i := 3) (P7.owns_low (i := 2) HO.out (g := W.heap.size + 1) (by omega) (.int .i64 xa)) (g := W.heap.size + 1) (by omega) (.int .i64 xr)) (g := W.heap.size + 1) (by omega) (.int .i64 xn)) (g := W.heap.size + 1) (by omega) (.int .i64 xd))
  clear hA1
  go_upto_region 8 with (fail)
  generalize (((w8.setCell ⟨W.heap.size + 1, 2, none⟩ (.int .i64 xa)).setCell ⟨W.heap.size + 1, 3, none⟩ (.int .i64 xr)).setCell ⟨W.heap.size + 1, 4, none⟩ (.int .i64 xn)).setCell ⟨W.heap.size + 1, 5, none⟩ (.int .i64 xd) = wq at *
  clear kz0 kc0 kf0 kz1 kc1 kf1 kz2 kc2 kf2 kz3 kc3 kf3 kz4 kc4 kf4 kz5 kc5 kf5 kz6 kc6 kf6 kz7 kc7 kf7 kz8 kc8 kf8 kz9 kc9 kf9 kz10 kc10 kf10 kz11 kc11 kf11 kz12 kc12 kf12 kz13 kc13 kf13 kz14 kc14 kf14 kz15 kc15 kf15
  have HV := Lib.hid (nil_own wq w4.heap.size 2 1)
  obtain ⟨⟨kz0,kc0,kf0⟩,⟨kz1,kc1,kf1⟩,⟨kz2,kc2,kf2⟩,⟨kz3,kc3,kf3⟩,⟨kz4,kc4,kf4⟩,⟨kz5,kc5,kf5⟩,⟨kz6,kc6,kf6⟩,⟨kz7,kc7,kf7⟩,⟨kz8,kc8,kf8⟩,⟨kz9,kc9,kf9⟩,⟨kz10,kc10,kf10⟩,⟨kz11,kc11,kf11⟩,⟨kz12,kc12,kf12⟩,⟨kz13,kc13,kf13⟩,⟨kz14,kc14,kf14⟩,⟨kz15,kc15,kf15⟩,_⟩ := id hK.2
  have CK := P11.check_any ⟨k, R, xa, xr, xn, xd, [], ee⟩ (by simp only; omega) (by simp) _ _ wq (readR_own HO.out) (Reads.nil)
  have hE : segS l j = finS ⟨k, R, xa, xr, xn, xd, [], ee⟩ a4 := by unfold segS; rw [HG0.out]; simp only; rw [HG1.out]; simp only; rw [HG2.out]; simp only; rw [if_neg g4, HG3.out]
  unfold finS at hE
  cases gs : segB ⟨k, R, xa, xr, xn, xd, [], ee⟩
  ·rw [gs] at CK hE
   simp only [Bool.false_eq_true, if_false] at CK hE
   go_wp2_with fail
   refine CK.mono ?_
   rintro e w9 ⟨rfl, hb9⟩
   go_wp2_with fail
   refine (UF.out _).mono ?_
   rintro e w10 ⟨rfl, hb10⟩
   go_wp2_with fail
   exact ⟨rfl, Rds.err (by first | exact hE | rfl) ((hK.next hb9).next hb10).1.1⟩
  ·rw [gs] at CK hE
   simp only [if_true] at CK hE
   go_wp2_with fail
   refine CK.mono ?_
   rintro e w9 ⟨rfl, hb9⟩
   replace hK := hK.next hb9
   replace hA := hA.next hb9
   replace HO := Lib.hid (owns_below HO.out hb9)
   replace HV := Lib.hid (owns_below HV.out hb9)
   clear kz0 kc0 kf0 kz1 kc1 kf1 kz2 kc2 kf2 kz3 kc3 kf3 kz4 kc4 kf4 kz5 kc5 kf5 kz6 kc6 kf6 kz7 kc7 kf7 kz8 kc8 kf8 kz9 kc9 kf9 kz10 kc10 kf10 kz11 kc11 kf11 kz12 kc12 kf12 kz13 kc13 kf13 kz14 kc14 kf14 kz15 kc15 kf15
   obtain ⟨⟨kz0,kc0,kf0⟩,⟨kz1,kc1,kf1⟩,⟨kz2,kc2,kf2⟩,⟨kz3,kc3,kf3⟩,⟨kz4,kc4,kf4⟩,⟨kz5,kc5,kf5⟩,⟨kz6,kc6,kf6⟩,⟨kz7,kc7,kf7⟩,⟨kz8,kc8,kf8⟩,⟨kz9,kc9,kf9⟩,⟨kz10,kc10,kf10⟩,⟨kz11,kc11,kf11⟩,⟨kz12,kc12,kf12⟩,⟨kz13,kc13,kf13⟩,⟨kz14,kc14,kf14⟩,⟨kz15,kc15,kf15⟩,_⟩ := id hK.2
   clear hb9
   go_wp2_with fail
   refine (UT.out _).mono ?_
   rintro e w10 ⟨rfl, hb10⟩
   replace hK := hK.next hb10
   replace hA := hA.next hb10
   replace HO := Lib.hid (owns_below HO.out hb10)
   replace HV := Lib.hid (owns_below HV.out hb10)
   clear kz0 kc0 kf0 kz1 kc1 kf1 kz2 kc2 kf2 kz3 kc3 kf3 kz4 kc4 kf4 kz5 kc5 kf5 kz6 kc6 kf6 kz7 kc7 kf7 kz8 kc8 kf8 kz9 kc9 kf9 kz10 kc10 kf10 kz11 kc11 kf11 kz12 kc12 kf12 kz13 kc13 kf13 kz14 kc14 kf14 kz15 kc15 kf15
   obtain ⟨⟨kz0,kc0,kf0⟩,⟨kz1,kc1,kf1⟩,⟨kz2,kc2,kf2⟩,⟨kz3,kc3,kf3⟩,⟨kz4,kc4,kf4⟩,⟨kz5,kc5,kf5⟩,⟨kz6,kc6,kf6⟩,⟨kz7,kc7,kf7⟩,⟨kz8,kc8,kf8⟩,⟨kz9,kc9,kf9⟩,⟨kz10,kc10,kf10⟩,⟨kz11,kc11,kf11⟩,⟨kz12,kc12,kf12⟩,⟨kz13,kc13,kf13⟩,⟨kz14,kc14,kf14⟩,⟨kz15,kc15,kf15⟩,_⟩ := id hK.2
   clear hb10
   go_wp2_with fail
   have hK7 := hK.put8 (M := [(W.heap.size, 0, .int .i64 k), (W.heap.size, 1, .slice Ar nr cr), (W.heap.size, 2, .int .i64 xa), (W.heap.size, 3, .int .i64 xr), (W.heap.size, 4, .int .i64 xn), (W.heap.size, 5, .int .i64 xd), (W.heap.size, 6, .slice none 0 0), (W.heap.size, 7, .int .i64 ee), (W.heap.size + 1, 0, .int .i64 k), (W.heap.size + 1, 1, .slice Ar nr cr), (W.heap.size + 1, 2, .int .i64 xa), (W.heap.size + 1, 3, .int .i64 xr), (W.heap.size + 1, 4, .int .i64 xn), (W.heap.size + 1, 5, .int .i64 xd), (W.heap.size + 1, 6, .slice none 0 0), (W.heap.size + 1, 7, .int .i64 ee)]) (by omega) kc0 kc1 kc2 kc3 kc4 kc5 kc6 kc7 (.int .i64 k) (.slice Ar nr cr) (.int .i64 xa) (.int .i64 xr) (.int .i64 xn) (.int .i64 xd) (.slice none 0 0) (.int .i64 ee) (by simp [updL])
   have hA7 := hA.put8 (b := W.heap.size) (by omega) (by omega) (.int .i64 k) (.slice Ar nr cr) (.int .i64 xa) (.int .i64 xr) (.int .i64 xn) (.int .i64 xd) (.slice none 0 0) (.int .i64 ee)
   have HO7 := Lib.hid (owns8 (B := W.heap.size) (B' := W.heap.size) HO.out (by omega) (by omega) (.int .i64 k) (.slice Ar nr cr) (.int .i64 xa) (.int .i64 xr) (.int .i64 xn) (.int .i64 xd) (.slice none 0 0) (.int .i64 ee))
   have HV7 := Lib.hid (owns8 (B := W.heap.size) (B' := W.heap.size) HV.out (by omega) (by omega) (.int .i64 k) (.slice Ar nr cr) (.int .i64 xa) (.int .i64 xr) (.int .i64 xn) (.int .i64 xd) (.slice none 0 0) (.int .i64 ee))
   clear hK hA HO HV kz0 kc0 kf0 kz1 kc1 kf1 kz2 kc2 kf2 kz3 kc3 kf3 kz4 kc4 kf4 kz5 kc5 kf5 kz6 kc6 kf6 kz7 kc7 kf7 kz8 kc8 kf8 kz9 kc9 kf9 kz10 kc10 kf10 kz11 kc11 kf11 kz12 kc12 kf12 kz13 kc13 kf13 kz14 kc14 kf14 kz15 kc15 kf15
   generalize (((((((w10.setCell ⟨W.heap.size, 0, none⟩ (.int .i64 k)).setCell ⟨W.heap.size, 1, none⟩ (.slice Ar nr cr)).setCell ⟨W.heap.size, 2, none⟩ (.int .i64 xa)).setCell ⟨W.heap.size, 3, none⟩ (.int .i64 xr)).setCell ⟨W.heap.size, 4, none⟩ (.int .i64 xn)).setCell ⟨W.heap.size, 5, none⟩ (.int .i64 xd)).setCell ⟨W.heap.size, 6, none⟩ (.slice none 0 0)).setCell ⟨W.heap.size, 7, none⟩ (.int .i64 ee) = wz at *
   obtain ⟨⟨kz0,kc0,kf0⟩,⟨kz1,kc1,kf1⟩,⟨kz2,kc2,kf2⟩,⟨kz3,kc3,kf3⟩,⟨kz4,kc4,kf4⟩,⟨kz5,kc5,kf5⟩,⟨kz6,kc6,kf6⟩,⟨kz7,kc7,kf7⟩,⟨kz8,kc8,kf8⟩,⟨kz9,kc9,kf9⟩,⟨kz10,kc10,kf10⟩,⟨kz11,kc11,kf11⟩,⟨kz12,kc12,kf12⟩,⟨kz13,kc13,kf13⟩,⟨kz14,kc14,kf14⟩,⟨kz15,kc15,kf15⟩,_⟩ := id hK7.2
   refine bodyPost_ret (v := .agg #[.int .i64 k, .slice Ar nr cr, .int .i64 xa, .int .i64 xr, .int .i64 xn, .int .i64 xd, .slice none 0 0, .int .i64 ee]) (by simp [results, Tryz.results104, go_sem, kc0, kc1, kc2, kc3, kc4, kc5, kc6, kc7]) rfl ?_
   first | exact Rds.ok hE hK7.1.1 ⟨_, _, _, _, _, _, rfl, HO7.out, HV7.out⟩ hA7 | exact Rds.ok rfl hK7.1.1 ⟨_, _, _, _, _, _, rfl, HO7.out, HV7.out⟩ hA7
end Go.Proofs.YtcfidimnbamnkaaGreat.P12

/-
 Layer 12: Get and Decode, of any bytes. Conditions: those written at each fact.
-/
namespace Go.Proofs.YtcfidimnbamnkaaGreat.P12
open Go.RowKit Go.Shelf Go.Proofs.YtcfidimnbamnkaaGreat.P2 Go.Proofs.YtcfidimnbamnkaaGreat.P7 Go.Proofs.YtcfidimnbamnkaaGreat.P11

set_option linter.unusedSimpArgs false
theorem assert_errno2 (v : Value) (W : World) : (Instr.typeAssert (.iface 31 v) 20 31 false).run Tryz.prog W = .ok v W := by kernel_rfl
theorem catchG_idle (p q r : Addr) (w : World) :
  CallsD Tryz.prog 103 #[.pointer (some p), .pointer (some q), .pointer (some r)] .returning w fun e u' w' => e = .returned (.tuple #[]) ∧ u' = .returning ∧ w' = w := by
 refine callsD_of_wpS Tryz.func103 rfl fun c₀ cs hu => ?_
 apply wpS_seq
 apply wpS_region
 simp [wpOpsS, go_sem, recoverD, hu, Tryz.ntmps103, Exit.thenS]
 apply wpS_seq
 apply wpS_region
 simp [wpOpsS, go_sem, Exit.thenS]
 refine wpS_cond (t := false) (by simp [Act.eval, Array.replicate]) ?_
 simp only [Bool.false_eq_true, if_false]
 refine wpS_of_wp (wp_skip ?_)
 cases c₀
 simp_all [bodyPostS, results, Tryz.results103]
def BK (n : Nat) (w : World) (L : List (Nat × Nat × Value)) (W : World) : Prop := Below n w W ∧ Cells L W
theorem BK.put {n : Nat} {w W : World} {L M : List (Nat × Nat × Value)} {b o : Nat} {a : Value} (h : BK n w L W) (hb : n ≤ b) (ha : W.cell? ⟨b, o, none⟩ = some a) (u : Value) (hM : updL b o u L = M) : BK n w M (W.setCell ⟨b, o, none⟩ u) :=
 hM ▸ ⟨h.1.setCell (p := ⟨b, o, none⟩) hb u, h.2.upd ha⟩
theorem BK.next {n : Nat} {w W W' : World} {L : List (Nat × Nat × Value)} (h : BK n w L W) (hb : Below W.heap.size W W') (hn : n ≤ W.heap.size) : BK n w L W' := ⟨h.1.trans (hb.mono hn), h.2.next hb⟩
theorem BK.drew {n : Nat} {w W : World} {L : List (Nat × Nat × Value)} (h : BK n w L W) : BK n w L W.drew := ⟨h.1.drew, h.2.next (Below.refl _ _).drew⟩
theorem BK.put10 {n : Nat} {w W : World} {b0 b1 b2 : Nat} {y0 y1 y2 y3 y4 y5 y6 y7 x1 x2 : Value} (h0 : n ≤ b0) (h1 : n ≤ b1) (h2 : n ≤ b2) (d1 : b0 ≠ b1) (d2 : b0 ≠ b2) (d3 : b1 ≠ b2) (h : BK n w [(b0, 0, y0), (b0, 1, y1), (b0, 2, y2), (b0, 3, y3), (b0, 4, y4), (b0, 5, y5), (b0, 6, y6), (b0, 7, y7), (b1, 0, x1), (b2, 0, x2)] W) (u0 u1 u2 u3 u4 u5 u6 u7 v1 v2 : Value) :
  BK n w [(b0, 0, u0), (b0, 1, u1), (b0, 2, u2), (b0, 3, u3), (b0, 4, u4), (b0, 5, u5), (b0, 6, u6), (b0, 7, u7), (b1, 0, v1), (b2, 0, v2)] ((((((((((W.setCell ⟨b0, 0, none⟩ u0).setCell ⟨b0, 1, none⟩ u1).setCell ⟨b0, 2, none⟩ u2).setCell ⟨b0, 3, none⟩ u3).setCell ⟨b0, 4, none⟩ u4).setCell ⟨b0, 5, none⟩ u5).setCell ⟨b0, 6, none⟩ u6).setCell ⟨b0, 7, none⟩ u7).setCell ⟨b1, 0, none⟩ v1).setCell ⟨b2, 0, none⟩ v2) := by
 have e1 : b1 ≠ b0 := fun e => d1 e.symm
 have e2 : b2 ≠ b0 := fun e => d2 e.symm
 have e3 : b2 ≠ b1 := fun e => d3 e.symm
 have k0 := h.put (o := 0) (M := [(b0, 0, u0), (b0, 1, y1), (b0, 2, y2), (b0, 3, y3), (b0, 4, y4), (b0, 5, y5), (b0, 6, y6), (b0, 7, y7), (b1, 0, x1), (b2, 0, x2)]) h0 h.2.1.2.1 u0 (by simp [updL, d1, d2, e1, e2])
 have k1 := k0.put (o := 1) (M := [(b0, 0, u0), (b0, 1, u1), (b0, 2, y2), (b0, 3, y3), (b0, 4, y4), (b0, 5, y5), (b0, 6, y6), (b0, 7, y7), (b1, 0, x1), (b2, 0, x2)]) h0 k0.2.2.1.2.1 u1 (by simp [updL, d1, d2, e1, e2])
 have k2 := k1.put (o := 2) (M := [(b0, 0, u0), (b0, 1, u1), (b0, 2, u2), (b0, 3, y3), (b0, 4, y4), (b0, 5, y5), (b0, 6, y6), (b0, 7, y7), (b1, 0, x1), (b2, 0, x2)]) h0 k1.2.2.2.1.2.1 u2 (by simp [updL, d1, d2, e1, e2])
 have k3 := k2.put (o := 3) (M := [(b0, 0, u0), (b0, 1, u1), (b0, 2, u2), (b0, 3, u3), (b0, 4, y4), (b0, 5, y5), (b0, 6, y6), (b0, 7, y7), (b1, 0, x1), (b2, 0, x2)]) h0 k2.2.2.2.2.1.2.1 u3 (by simp [updL, d1, d2, e1, e2])
 have k4 := k3.put (o := 4) (M := [(b0, 0, u0), (b0, 1, u1), (b0, 2, u2), (b0, 3, u3), (b0, 4, u4), (b0, 5, y5), (b0, 6, y6), (b0, 7, y7), (b1, 0, x1), (b2, 0, x2)]) h0 k3.2.2.2.2.2.1.2.1 u4 (by simp [updL, d1, d2, e1, e2])
 have k5 := k4.put (o := 5) (M := [(b0, 0, u0), (b0, 1, u1), (b0, 2, u2), (b0, 3, u3), (b0, 4, u4), (b0, 5, u5), (b0, 6, y6), (b0, 7, y7), (b1, 0, x1), (b2, 0, x2)]) h0 k4.2.2.2.2.2.2.1.2.1 u5 (by simp [updL, d1, d2, e1, e2])
 have k6 := k5.put (o := 6) (M := [(b0, 0, u0), (b0, 1, u1), (b0, 2, u2), (b0, 3, u3), (b0, 4, u4), (b0, 5, u5), (b0, 6, u6), (b0, 7, y7), (b1, 0, x1), (b2, 0, x2)]) h0 k5.2.2.2.2.2.2.2.1.2.1 u6 (by simp [updL, d1, d2, e1, e2])
 have k7 := k6.put (o := 7) (M := [(b0, 0, u0), (b0, 1, u1), (b0, 2, u2), (b0, 3, u3), (b0, 4, u4), (b0, 5, u5), (b0, 6, u6), (b0, 7, u7), (b1, 0, x1), (b2, 0, x2)]) h0 k6.2.2.2.2.2.2.2.2.1.2.1 u7 (by simp [updL, d1, d2, e1, e2])
 have k8 := k7.put (o := 0) (M := [(b0, 0, u0), (b0, 1, u1), (b0, 2, u2), (b0, 3, u3), (b0, 4, u4), (b0, 5, u5), (b0, 6, u6), (b0, 7, u7), (b1, 0, v1), (b2, 0, x2)]) h1 k7.2.2.2.2.2.2.2.2.2.1.2.1 v1 (by simp [updL, d1, e1, d3, e3])
 exact k8.put (o := 0) (M := [(b0, 0, u0), (b0, 1, u1), (b0, 2, u2), (b0, 3, u3), (b0, 4, u4), (b0, 5, u5), (b0, 6, u6), (b0, 7, u7), (b1, 0, v1), (b2, 0, v2)]) h2 k8.2.2.2.2.2.2.2.2.2.2.1.2.1 v2 (by simp [updL, d2, e2, d3, e3])
set_option maxHeartbeats 2000000 in
theorem catchG_panicking (n b0 b1 b2 : Nat) (h0 : n ≤ b0) (h1 : n ≤ b1) (h2 : n ≤ b2) (d1 : b0 ≠ b1) (d2 : b0 ≠ b2) (d3 : b1 ≠ b2) (y0 y1 y2 y3 y4 y5 y6 y7 x1 x2 : Value) (code : Int) (older : List PanicEntry) (w : World)
  (h : Cells [(b0, 0, y0), (b0, 1, y1), (b0, 2, y2), (b0, 3, y3), (b0, 4, y4), (b0, 5, y5), (b0, 6, y6), (b0, 7, y7), (b1, 0, x1), (b2, 0, x2)] w) :
  CallsD Tryz.prog 103 #[.pointer (some ⟨b0, 0, none⟩), .pointer (some ⟨b1, 0, none⟩), .pointer (some ⟨b2, 0, none⟩)] (.panicking ({ v := .iface 31 (.int .i64 code), recovered := false } :: older)) w fun e u' w' =>
   e = .returned (.tuple #[]) ∧ u' = .panicking ({ v := .iface 31 (.int .i64 code), recovered := true } :: older) ∧ BK n w [(b0, 0, .int .i64 0), (b0, 1, .slice none 0 0), (b0, 2, .int .i64 0), (b0, 3, .int .i64 0), (b0, 4, .int .i64 0), (b0, 5, .int .i64 0), (b0, 6, .slice none 0 0), (b0, 7, .int .i64 0), (b1, 0, .int .i64 0), (b2, 0, .int .i64 code)] w' := by
 have HB := Lib.hid (BK.put10 (n := n) (w := w) h0 h1 h2 d1 d2 d3 ⟨Below.refl _ _, h⟩ (.int .i64 0) (.slice none 0 0) (.int .i64 0) (.int .i64 0) (.int .i64 0) (.int .i64 0) (.slice none 0 0) (.int .i64 0) (.int .i64 0) (.int .i64 code))
 refine callsD_of_wpS Tryz.func103 rfl fun c₀ cs hu => ?_
 apply wpS_seq
 apply wpS_region
 simp [wpOpsS, go_sem, recoverD, hu, Tryz.ntmps103, Exit.thenS]
 apply wpS_seq
 apply wpS_region
 simp [wpOpsS, go_sem, Exit.thenS]
 refine wpS_cond (t := true) (by simp [Act.eval, Array.replicate]) ?_
 simp only [if_true]
 refine wpS_of_wp ?_
 obtain ⟨⟨_,_,_⟩,⟨_,_,_⟩,⟨_,_,_⟩,⟨_,_,_⟩,⟨_,_,_⟩,⟨_,_,_⟩,⟨_,_,_⟩,⟨_,_,_⟩,⟨_,_,_⟩,⟨_,_,_⟩,_⟩ := id h
 have ta : ∀ W, (Instr.typeAssert (.iface 31 (.int .i64 code)) 20 31 false).run Tryz.prog W = .ok (.int .i64 code) W := assert_errno2 _
 change Code.wp _ _ _ { tmps := #[.pointer (some ⟨b0, 0, none⟩), .pointer (some ⟨b1, 0, none⟩), .pointer (some ⟨b2, 0, none⟩), .iface 31 (.int .i64 code), .iface 31 (.int .i64 code), .iface 31 (.int .i64 code), .bool true, undef, undef, undef], defers := [] } _
 go_region
 all_goals
  simp [bodyPostS, results, Tryz.results103]
  exact HB.out.drew
def getS (l : List Int) (p : Int) : Except Int (Sg × Int) := if p < 0 ∨ (l.length : Int) < p then .error 2 else segS l p.toNat
def GetE (W : World) (r : Except Int (Sg × Int)) (e : Ending) (w' : World) : Prop := Below W.heap.size W w' ∧ match r with
 | .ok (s, a) => ∃ A n c A' n' c', e = .returned (.tuple #[sgV s.k (.slice A n c) s.a s.r s.n s.d (.slice A' n' c') s.e, .int .i64 a, .int .i64 0]) ∧ w'.ownsRow W.heap.size 44 3 (.slice A n c) s.R.length (flatR s.R) ∧ w'.ownsRow W.heap.size 2 1 (.slice A' n' c') s.V.length (s.V.map (Value.int .i64))
 | .error c => e = .returned (.tuple #[sgV 0 (.slice none 0 0) 0 0 0 0 (.slice none 0 0) 0, .int .i64 0, .int .i64 c])
theorem GetE.ok {W : World} {r : Except Int (Sg × Int)} {e : Ending} {w' : World} {s : Sg} {a : Int} (hr : r = .ok (s, a)) (hb : Below W.heap.size W w') (h : ∃ A n c A' n' c', e = .returned (.tuple #[sgV s.k (.slice A n c) s.a s.r s.n s.d (.slice A' n' c') s.e, .int .i64 a, .int .i64 0]) ∧ w'.ownsRow W.heap.size 44 3 (.slice A n c) s.R.length (flatR s.R) ∧ w'.ownsRow W.heap.size 2 1 (.slice A' n' c') s.V.length (s.V.map (Value.int .i64))) : GetE W r e w' := by
 subst hr
 exact ⟨hb, h⟩
theorem GetE.err {W : World} {r : Except Int (Sg × Int)} {w' : World} {c : Int} (hr : r = .error c) (hb : Below W.heap.size W w') : GetE W r (.returned (.tuple #[sgV 0 (.slice none 0 0) 0 0 0 0 (.slice none 0 0) 0, .int .i64 0, .int .i64 c])) w' := by
 subst hr
 exact ⟨hb, rfl⟩
set_option maxRecDepth 100000 in
set_option maxHeartbeats 8000000 in
theorem getBad_any (l : List Int) (p : Int) (hp : p < 0 ∨ (l.length : Int) < p) (bv : Value) (W : World) (hr : Reads .u8 W bv l) : Calls Tryz.prog 49 #[bv, .int .i64 p] W (GetE W (getS l p)) := by
 obtain ⟨Ab, cb, rfl, _, _⟩ := hr
 have hE : getS l p = .error 2 := by unfold getS; rw [if_pos hp]
 have hmf : ∀ (fn : Fn) (first cap : Array Value) (w : World), (Instr.makeFunc fn first cap).run Tryz.prog w = .ok (.func fn first cap) w := fun _ _ _ _ => rfl
 have HB := Lib.hid (show Below W.heap.size W (((W.alloc (.cells #[.int .i64 0, .slice none 0 0, .int .i64 0, .int .i64 0, .int .i64 0, .int .i64 0, .slice none 0 0, .int .i64 0] 27)).alloc (.cells #[.int .i64 0] 3)).alloc (.cells #[.int .i64 2] 31)) from ((below_alloc W _).trans ((below_alloc _ _).mono (below_alloc W _).size)).trans ((below_alloc _ _).mono (Nat.le_trans (below_alloc W _).size (below_alloc _ _).size)))
 by_cases g : p < 0
 ·go_enter_defers Tryz.func49, Tryz.ntmps49
  go_wp2_with fail
  simp [bodyPostD, Leaves, settle, results, Tryz.results49, go_sem]
  first | exact GetE.err hE HB.out | exact GetE.err rfl HB.out
 ·have g2 : (l.length : Int) < p := by omega
  have t1 : decide (p < 0) = false := decide_eq_false g
  go_enter_defers Tryz.func49, Tryz.ntmps49
  go_wp2_with fail
  simp [bodyPostD, Leaves, settle, results, Tryz.results49, go_sem]
  first | exact GetE.err hE HB.out | exact GetE.err rfl HB.out
set_option maxRecDepth 100000 in
set_option maxHeartbeats 8000000 in
theorem getOk_any (l : List Int) (hl : l.length ≤ 1000000) (hb : ∀ z ∈ l, 0 ≤ z ∧ z < 256) (j : Nat) (hj : j ≤ l.length) (bv : Value) (W : World) (hr : Reads .u8 W bv l) : Calls Tryz.prog 49 #[bv, .int .i64 (j : Int)] W (GetE W (getS l (j : Int))) := by
 obtain ⟨Ab, cb, rfl, _, _⟩ := id hr
 have hE : getS l (j : Int) = segS l j := by unfold getS; rw [if_neg (by omega), Int.toNat_natCast]
 have hB4 : Below W.heap.size W ((((W.alloc (.cells #[.int .i64 0, .slice none 0 0, .int .i64 0, .int .i64 0, .int .i64 0, .int .i64 0, .slice none 0 0, .int .i64 0] 27)).alloc (.cells #[.int .i64 0] 3)).alloc (.cells #[.int .i64 0] 31)).alloc (.cells #[.slice Ab l.length cb, .int .i64 (j : Int)] 156)) := (((below_alloc W _).trans ((below_alloc _ _).mono (below_alloc W _).size)).trans ((below_alloc _ _).mono (Nat.le_trans (below_alloc W _).size (below_alloc _ _).size))).trans ((below_alloc _ _).mono (Nat.le_trans (Nat.le_trans (below_alloc W _).size (below_alloc _ _).size) (below_alloc _ _).size))
 have hK : KF (fun k => k = W.heap.size + 3) W [(W.heap.size, 0, .int .i64 0), (W.heap.size, 1, .slice none 0 0), (W.heap.size, 2, .int .i64 0), (W.heap.size, 3, .int .i64 0), (W.heap.size, 4, .int .i64 0), (W.heap.size, 5, .int .i64 0), (W.heap.size, 6, .slice none 0 0), (W.heap.size, 7, .int .i64 0), (W.heap.size + 1, 0, .int .i64 0), (W.heap.size + 2, 0, .int .i64 0)] (fun k => k = W.heap.size + 3) ((((W.alloc (.cells #[.int .i64 0, .slice none 0 0, .int .i64 0, .int .i64 0, .int .i64 0, .int .i64 0, .slice none 0 0, .int .i64 0] 27)).alloc (.cells #[.int .i64 0] 3)).alloc (.cells #[.int .i64 0] 31)).alloc (.cells #[.slice Ab l.length cb, .int .i64 (j : Int)] 156)) := KF.start hB4 (by simp [Cells, go_sem]) (by simp)
 have hA : At W (W.heap.size + 3) (.slice Ab l.length cb) l (j : Int) ((((W.alloc (.cells #[.int .i64 0, .slice none 0 0, .int .i64 0, .int .i64 0, .int .i64 0, .int .i64 0, .slice none 0 0, .int .i64 0] 27)).alloc (.cells #[.int .i64 0] 3)).alloc (.cells #[.int .i64 0] 31)).alloc (.cells #[.slice Ab l.length cb, .int .i64 (j : Int)] 156)) := ⟨by omega, hr, hB4, by simp [Cells, go_sem]⟩
 have hz4 : ((((W.alloc (.cells #[.int .i64 0, .slice none 0 0, .int .i64 0, .int .i64 0, .int .i64 0, .int .i64 0, .slice none 0 0, .int .i64 0] 27)).alloc (.cells #[.int .i64 0] 3)).alloc (.cells #[.int .i64 0] 31)).alloc (.cells #[.slice Ab l.length cb, .int .i64 (j : Int)] 156)).heap.size = W.heap.size + 4 := by simp
 have SG := Lib.hid (segment_any l hl hb W (W.heap.size + 3) (.slice Ab l.length cb) j hj ((((W.alloc (.cells #[.int .i64 0, .slice none 0 0, .int .i64 0, .int .i64 0, .int .i64 0, .int .i64 0, .slice none 0 0, .int .i64 0] 27)).alloc (.cells #[.int .i64 0] 3)).alloc (.cells #[.int .i64 0] 31)).alloc (.cells #[.slice Ab l.length cb, .int .i64 (j : Int)] 156)) hA)
 have hmf : ∀ (fn : Fn) (first cap : Array Value) (w : World), (Instr.makeFunc fn first cap).run Tryz.prog w = .ok (.func fn first cap) w := fun _ _ _ _ => rfl
 have i0 : ¬ (j : Int) < 0 := by omega
 have i1 : ¬ (l.length : Int) < (j : Int) := by omega
 have t0 : decide ((j : Int) < 0) = false := decide_eq_false i0
 clear hl hb hB4 hA hr hj
 go_enter_defers Tryz.func49, Tryz.ntmps49
 go_wp2_with fail
 refine SG.out.mono ?_
 rintro e w1 hq
 obtain ⟨hf, hq⟩ := hq.ways
 have hK1 := hK.turn hf
 have hB1 : Below W.heap.size W w1 := hK1.1.1.below (Nat.le_refl _) (fun k hk => by omega)
 obtain ⟨c, hg, rfl⟩ | ⟨s, a, hg, hG, hA1⟩ := hq
 ·rw [hg] at hE
  clear hK SG
  obtain ⟨⟨kz0,kc0,kf0⟩,⟨kz1,kc1,kf1⟩,⟨kz2,kc2,kf2⟩,⟨kz3,kc3,kf3⟩,⟨kz4,kc4,kf4⟩,⟨kz5,kc5,kf5⟩,⟨kz6,kc6,kf6⟩,⟨kz7,kc7,kf7⟩,⟨kz8,kc8,kf8⟩,⟨kz9,kc9,kf9⟩,_⟩ := id hK1.2
  go_wp2_with fail
  refine leaves_cons (f := 103) (args := #[.pointer (some ⟨W.heap.size, 0, none⟩), .pointer (some ⟨W.heap.size + 1, 0, none⟩), .pointer (some ⟨W.heap.size + 2, 0, none⟩)]) (by simp) (by simp [go_sem]) ?_
  refine (catchG_panicking W.heap.size W.heap.size (W.heap.size + 1) (W.heap.size + 2) (Nat.le_refl _) (by omega) (by omega) (by omega) (by omega) (by omega) _ _ _ _ _ _ _ _ _ _ c [] _ hK1.2).mono ?_
  rintro e u' w'' ⟨rfl, rfl, hBK⟩
  clear kz0 kc0 kf0 kz1 kc1 kf1 kz2 kc2 kf2 kz3 kc3 kf3 kz4 kc4 kf4 kz5 kc5 kf5 kz6 kc6 kf6 kz7 kc7 kf7 kz8 kc8 kf8 kz9 kc9 kf9
  obtain ⟨⟨kz0,kc0,kf0⟩,⟨kz1,kc1,kf1⟩,⟨kz2,kc2,kf2⟩,⟨kz3,kc3,kf3⟩,⟨kz4,kc4,kf4⟩,⟨kz5,kc5,kf5⟩,⟨kz6,kc6,kf6⟩,⟨kz7,kc7,kf7⟩,⟨kz8,kc8,kf8⟩,⟨kz9,kc9,kf9⟩,_⟩ := id hBK.2
  simp [Leaves, settle, results, Tryz.results49, go_sem, kc0, kc1, kc2, kc3, kc4, kc5, kc6, kc7, kc8, kc9]
  first | exact GetE.err hE (hB1.trans hBK.1) | exact GetE.err rfl (hB1.trans hBK.1)
 ·rw [hg] at hE
  obtain ⟨A, n, c, A', n', c', rfl, hO, hV⟩ := hG
  rw [hz4] at hO hV
  have hBK : BK W.heap.size W [(W.heap.size, 0, .int .i64 0), (W.heap.size, 1, .slice none 0 0), (W.heap.size, 2, .int .i64 0), (W.heap.size, 3, .int .i64 0), (W.heap.size, 4, .int .i64 0), (W.heap.size, 5, .int .i64 0), (W.heap.size, 6, .slice none 0 0), (W.heap.size, 7, .int .i64 0), (W.heap.size + 1, 0, .int .i64 0), (W.heap.size + 2, 0, .int .i64 0), (W.heap.size + 3, 0, .slice Ab l.length cb), (W.heap.size + 3, 1, .int .i64 a)] w1 := ⟨hB1, hK1.2.app hA1.cs⟩
  clear hK SG hK1 hA1 hf
  obtain ⟨⟨kz0,kc0,kf0⟩,⟨kz1,kc1,kf1⟩,⟨kz2,kc2,kf2⟩,⟨kz3,kc3,kf3⟩,⟨kz4,kc4,kf4⟩,⟨kz5,kc5,kf5⟩,⟨kz6,kc6,kf6⟩,⟨kz7,kc7,kf7⟩,⟨kz8,kc8,kf8⟩,⟨kz9,kc9,kf9⟩,⟨kz10,kc10,kf10⟩,⟨kz11,kc11,kf11⟩,_⟩ := id hBK.2
  go_wp2_with fail
  have h0 := hBK.put (o := 0) (M := [(W.heap.size, 0, .int .i64 s.k), (W.heap.size, 1, .slice none 0 0), (W.heap.size, 2, .int .i64 0), (W.heap.size, 3, .int .i64 0), (W.heap.size, 4, .int .i64 0), (W.heap.size, 5, .int .i64 0), (W.heap.size, 6, .slice none 0 0), (W.heap.size, 7, .int .i64 0), (W.heap.size + 1, 0, .int .i64 0), (W.heap.size + 2, 0, .int .i64 0), (W.heap.size + 3, 0, .slice Ab l.length cb), (W.heap.size + 3, 1, .int .i64 a)]) (Nat.le_refl _) hBK.2.1.2.1 (.int .i64 s.k) (by simp [updL])
  have h1 := h0.put (o := 1) (M := [(W.heap.size, 0, .int .i64 s.k), (W.heap.size, 1, .slice A n c), (W.heap.size, 2, .int .i64 0), (W.heap.size, 3, .int .i64 0), (W.heap.size, 4, .int .i64 0), (W.heap.size, 5, .int .i64 0), (W.heap.size, 6, .slice none 0 0), (W.heap.size, 7, .int .i64 0), (W.heap.size + 1, 0, .int .i64 0), (W.heap.size + 2, 0, .int .i64 0), (W.heap.size + 3, 0, .slice Ab l.length cb), (W.heap.size + 3, 1, .int .i64 a)]) (Nat.le_refl _) h0.2.2.1.2.1 (.slice A n c) (by simp [updL])
  have h2 := h1.put (o := 2) (M := [(W.heap.size, 0, .int .i64 s.k), (W.heap.size, 1, .slice A n c), (W.heap.size, 2, .int .i64 s.a), (W.heap.size, 3, .int .i64 0), (W.heap.size, 4, .int .i64 0), (W.heap.size, 5, .int .i64 0), (W.heap.size, 6, .slice none 0 0), (W.heap.size, 7, .int .i64 0), (W.heap.size + 1, 0, .int .i64 0), (W.heap.size + 2, 0, .int .i64 0), (W.heap.size + 3, 0, .slice Ab l.length cb), (W.heap.size + 3, 1, .int .i64 a)]) (Nat.le_refl _) h1.2.2.2.1.2.1 (.int .i64 s.a) (by simp [updL])
  have h3 := h2.put (o := 3) (M := [(W.heap.size, 0, .int .i64 s.k), (W.heap.size, 1, .slice A n c), (W.heap.size, 2, .int .i64 s.a), (W.heap.size, 3, .int .i64 s.r), (W.heap.size, 4, .int .i64 0), (W.heap.size, 5, .int .i64 0), (W.heap.size, 6, .slice none 0 0), (W.heap.size, 7, .int .i64 0), (W.heap.size + 1, 0, .int .i64 0), (W.heap.size + 2, 0, .int .i64 0), (W.heap.size + 3, 0, .slice Ab l.length cb), (W.heap.size + 3, 1, .int .i64 a)]) (Nat.le_refl _) h2.2.2.2.2.1.2.1 (.int .i64 s.r) (by simp [updL])
  have h4 := h3.put (o := 4) (M := [(W.heap.size, 0, .int .i64 s.k), (W.heap.size, 1, .slice A n c), (W.heap.size, 2, .int .i64 s.a), (W.heap.size, 3, .int .i64 s.r), (W.heap.size, 4, .int .i64 s.n), (W.heap.size, 5, .int .i64 0), (W.heap.size, 6, .slice none 0 0), (W.heap.size, 7, .int .i64 0), (W.heap.size + 1, 0, .int .i64 0), (W.heap.size + 2, 0, .int .i64 0), (W.heap.size + 3, 0, .slice Ab l.length cb), (W.heap.size + 3, 1, .int .i64 a)]) (Nat.le_refl _) h3.2.2.2.2.2.1.2.1 (.int .i64 s.n) (by simp [updL])
  have h5 := h4.put (o := 5) (M := [(W.heap.size, 0, .int .i64 s.k), (W.heap.size, 1, .slice A n c), (W.heap.size, 2, .int .i64 s.a), (W.heap.size, 3, .int .i64 s.r), (W.heap.size, 4, .int .i64 s.n), (W.heap.size, 5, .int .i64 s.d), (W.heap.size, 6, .slice none 0 0), (W.heap.size, 7, .int .i64 0), (W.heap.size + 1, 0, .int .i64 0), (W.heap.size + 2, 0, .int .i64 0), (W.heap.size + 3, 0, .slice Ab l.length cb), (W.heap.size + 3, 1, .int .i64 a)]) (Nat.le_refl _) h4.2.2.2.2.2.2.1.2.1 (.int .i64 s.d) (by simp [updL])
  have h6 := h5.put (o := 6) (M := [(W.heap.size, 0, .int .i64 s.k), (W.heap.size, 1, .slice A n c), (W.heap.size, 2, .int .i64 s.a), (W.heap.size, 3, .int .i64 s.r), (W.heap.size, 4, .int .i64 s.n), (W.heap.size, 5, .int .i64 s.d), (W.heap.size, 6, .slice A' n' c'), (W.heap.size, 7, .int .i64 0), (W.heap.size + 1, 0, .int .i64 0), (W.heap.size + 2, 0, .int .i64 0), (W.heap.size + 3, 0, .slice Ab l.length cb), (W.heap.size + 3, 1, .int .i64 a)]) (Nat.le_refl _) h5.2.2.2.2.2.2.2.1.2.1 (.slice A' n' c') (by simp [updL])
  have h7 := h6.put (o := 7) (M := [(W.heap.size, 0, .int .i64 s.k), (W.heap.size, 1, .slice A n c), (W.heap.size, 2, .int .i64 s.a), (W.heap.size, 3, .int .i64 s.r), (W.heap.size, 4, .int .i64 s.n), (W.heap.size, 5, .int .i64 s.d), (W.heap.size, 6, .slice A' n' c'), (W.heap.size, 7, .int .i64 s.e), (W.heap.size + 1, 0, .int .i64 0), (W.heap.size + 2, 0, .int .i64 0), (W.heap.size + 3, 0, .slice Ab l.length cb), (W.heap.size + 3, 1, .int .i64 a)]) (Nat.le_refl _) h6.2.2.2.2.2.2.2.2.1.2.1 (.int .i64 s.e) (by simp [updL])
  have HO := Lib.hid (owns8 (B := W.heap.size) (B' := W.heap.size + 4) hO (by omega) (Nat.le_refl _) (.int .i64 s.k) (.slice A n c) (.int .i64 s.a) (.int .i64 s.r) (.int .i64 s.n) (.int .i64 s.d) (.slice A' n' c') (.int .i64 s.e))
  have HV := Lib.hid (owns8 (B := W.heap.size) (B' := W.heap.size + 4) hV (by omega) (Nat.le_refl _) (.int .i64 s.k) (.slice A n c) (.int .i64 s.a) (.int .i64 s.r) (.int .i64 s.n) (.int .i64 s.d) (.slice A' n' c') (.int .i64 s.e))
  clear hBK h0 h1 h2 h3 h4 h5 h6 hO hV kz0 kc0 kf0 kz1 kc1 kf1 kz2 kc2 kf2 kz3 kc3 kf3 kz4 kc4 kf4 kz5 kc5 kf5 kz6 kc6 kf6 kz7 kc7 kf7 kz8 kc8 kf8 kz9 kc9 kf9 kz10 kc10 kf10 kz11 kc11 kf11
  generalize (((((((w1.setCell ⟨W.heap.size, 0, none⟩ (.int .i64 s.k)).setCell ⟨W.heap.size, 1, none⟩ (.slice A n c)).setCell ⟨W.heap.size, 2, none⟩ (.int .i64 s.a)).setCell ⟨W.heap.size, 3, none⟩ (.int .i64 s.r)).setCell ⟨W.heap.size, 4, none⟩ (.int .i64 s.n)).setCell ⟨W.heap.size, 5, none⟩ (.int .i64 s.d)).setCell ⟨W.heap.size, 6, none⟩ (.slice A' n' c')).setCell ⟨W.heap.size, 7, none⟩ (.int .i64 s.e) = w2 at *
  obtain ⟨⟨kz0,kc0,kf0⟩,⟨kz1,kc1,kf1⟩,⟨kz2,kc2,kf2⟩,⟨kz3,kc3,kf3⟩,⟨kz4,kc4,kf4⟩,⟨kz5,kc5,kf5⟩,⟨kz6,kc6,kf6⟩,⟨kz7,kc7,kf7⟩,⟨kz8,kc8,kf8⟩,⟨kz9,kc9,kf9⟩,⟨kz10,kc10,kf10⟩,⟨kz11,kc11,kf11⟩,_⟩ := id h7.2
  have x1 : w2.cell? ⟨W.heap.size + 1 + 1, 0, none⟩ = some (.int .i64 0) := kc9
  have x2 : w2.frozen? ⟨W.heap.size + 1 + 1, 0, none⟩ = false := kf9
  have x3 : w2.cell? ⟨W.heap.size + 1 + 1 + 1, 1, none⟩ = some (.int .i64 a) := kc11
  have hL : Cells [(W.heap.size, 0, .int .i64 s.k), (W.heap.size, 1, .slice A n c), (W.heap.size, 2, .int .i64 s.a), (W.heap.size, 3, .int .i64 s.r), (W.heap.size, 4, .int .i64 s.n), (W.heap.size, 5, .int .i64 s.d), (W.heap.size, 6, .slice A' n' c'), (W.heap.size, 7, .int .i64 s.e), (W.heap.size + 1, 0, .int .i64 0), (W.heap.size + 2, 0, .int .i64 0)] w2 := ⟨⟨kz0, kc0, kf0⟩, ⟨kz1, kc1, kf1⟩, ⟨kz2, kc2, kf2⟩, ⟨kz3, kc3, kf3⟩, ⟨kz4, kc4, kf4⟩, ⟨kz5, kc5, kf5⟩, ⟨kz6, kc6, kf6⟩, ⟨kz7, kc7, kf7⟩, ⟨kz8, kc8, kf8⟩, ⟨kz9, kc9, kf9⟩, trivial⟩
  have HB := Lib.hid (BK.put10 (n := W.heap.size) (w := W) (Nat.le_refl _) (by omega) (by omega) (by omega) (by omega) (by omega) ⟨h7.1, hL⟩ (.int .i64 s.k) (.slice A n c) (.int .i64 s.a) (.int .i64 s.r) (.int .i64 s.n) (.int .i64 s.d) (.slice A' n' c') (.int .i64 s.e) (.int .i64 a) (.int .i64 0))
  replace HO := Lib.hid (P7.owns_low (i := 0) (P7.owns_low (i := 0) (owns8 (B := W.heap.size) (B' := W.heap.size + 4) HO.out (by omega) (Nat.le_refl _) (.int .i64 s.k) (.slice A n c) (.int .i64 s.a) (.int .i64 s.r) (.int .i64 s.n) (.int .i64 s.d) (.slice A' n' c') (.int .i64 s.e)) (g := W.heap.size + 1) (by omega) (.int .i64 a)) (g := W.heap.size + 2) (by omega) (.int .i64 0))
  replace HV := Lib.hid (P7.owns_low (i := 0) (P7.owns_low (i := 0) (owns8 (B := W.heap.size) (B' := W.heap.size + 4) HV.out (by omega) (Nat.le_refl _) (.int .i64 s.k) (.slice A n c) (.int .i64 s.a) (.int .i64 s.r) (.int .i64 s.n) (.int .i64 s.d) (.slice A' n' c') (.int .i64 s.e)) (g := W.heap.size + 1) (by omega) (.int .i64 a)) (g := W.heap.size + 2) (by omega) (.int .i64 0))
  clear h7 hL
  go_region
  all_goals
   go_wp2_with fail
   refine leaves_cons (f := 103) (args := #[.pointer (some ⟨W.heap.size, 0, none⟩), .pointer (some ⟨W.heap.size + 1, 0, none⟩), .pointer (some ⟨W.heap.size + 2, 0, none⟩)]) (by simp) (by simp [go_sem]) ?_
   refine (catchG_idle _ _ _ _).mono ?_
   rintro e u' w'' ⟨rfl, rfl, rfl⟩
   clear x1 x2 x3 kz0 kc0 kf0 kz1 kc1 kf1 kz2 kc2 kf2 kz3 kc3 kf3 kz4 kc4 kf4 kz5 kc5 kf5 kz6 kc6 kf6 kz7 kc7 kf7 kz8 kc8 kf8 kz9 kc9 kf9 kz10 kc10 kf10 kz11 kc11 kf11
   change Leaves _ _ _ _ _ _ ((((((((((w2.setCell ⟨W.heap.size, 0, none⟩ (.int .i64 s.k)).setCell ⟨W.heap.size, 1, none⟩ (.slice A n c)).setCell ⟨W.heap.size, 2, none⟩ (.int .i64 s.a)).setCell ⟨W.heap.size, 3, none⟩ (.int .i64 s.r)).setCell ⟨W.heap.size, 4, none⟩ (.int .i64 s.n)).setCell ⟨W.heap.size, 5, none⟩ (.int .i64 s.d)).setCell ⟨W.heap.size, 6, none⟩ (.slice A' n' c')).setCell ⟨W.heap.size, 7, none⟩ (.int .i64 s.e)).setCell ⟨W.heap.size + 1, 0, none⟩ (.int .i64 a)).setCell ⟨W.heap.size + 2, 0, none⟩ (.int .i64 0)).drew
   generalize (((((((((w2.setCell ⟨W.heap.size, 0, none⟩ (.int .i64 s.k)).setCell ⟨W.heap.size, 1, none⟩ (.slice A n c)).setCell ⟨W.heap.size, 2, none⟩ (.int .i64 s.a)).setCell ⟨W.heap.size, 3, none⟩ (.int .i64 s.r)).setCell ⟨W.heap.size, 4, none⟩ (.int .i64 s.n)).setCell ⟨W.heap.size, 5, none⟩ (.int .i64 s.d)).setCell ⟨W.heap.size, 6, none⟩ (.slice A' n' c')).setCell ⟨W.heap.size, 7, none⟩ (.int .i64 s.e)).setCell ⟨W.heap.size + 1, 0, none⟩ (.int .i64 a)).setCell ⟨W.heap.size + 2, 0, none⟩ (.int .i64 0) = w3 at *
   obtain ⟨⟨kz0,kc0,kf0⟩,⟨kz1,kc1,kf1⟩,⟨kz2,kc2,kf2⟩,⟨kz3,kc3,kf3⟩,⟨kz4,kc4,kf4⟩,⟨kz5,kc5,kf5⟩,⟨kz6,kc6,kf6⟩,⟨kz7,kc7,kf7⟩,⟨kz8,kc8,kf8⟩,⟨kz9,kc9,kf9⟩,_⟩ := id HB.out.drew.2
   simp [Leaves, settle, results, Tryz.results49, go_sem, kc0, kc1, kc2, kc3, kc4, kc5, kc6, kc7, kc8, kc9]
   have hO4 := owns_less (B' := W.heap.size) (owns_below HO.out (Below.refl _ _).drew) (by omega)
   have hV4 := owns_less (B' := W.heap.size) (owns_below HV.out (Below.refl _ _).drew) (by omega)
   first | exact GetE.ok hE HB.out.drew.1 ⟨_, _, _, _, _, _, rfl, hO4, hV4⟩ | exact GetE.ok rfl HB.out.drew.1 ⟨_, _, _, _, _, _, rfl, hO4, hV4⟩
end Go.Proofs.YtcfidimnbamnkaaGreat.P12

/-
 Layer 12: Get and Decode, of any bytes: what they answer. Conditions: those written at each fact.
-/
namespace Go.Proofs.YtcfidimnbamnkaaGreat.P12
open Go.RowKit Go.Shelf Go.Proofs.YtcfidimnbamnkaaGreat.P2 Go.Proofs.YtcfidimnbamnkaaGreat.P7 Go.Proofs.YtcfidimnbamnkaaGreat.P11
set_option linter.unusedSimpArgs false

theorem sget_any (l : List Int) (hl : l.length ≤ 1000000) (hb : ∀ z ∈ l, 0 ≤ z ∧ z < 256) (p : Int) (bv : Value) (W : World) (hr : Reads .u8 W bv l) : Calls Tryz.prog 49 #[bv, .int .i64 p] W (GetE W (getS l p)) := by
 by_cases g : p < 0 ∨ (l.length : Int) < p
 ·exact getBad_any l p g bv W hr
 ·obtain ⟨j, rfl⟩ : ∃ j : Nat, p = (j : Int) := ⟨p.toNat, by omega⟩
  exact getOk_any l hl hb j (by omega) bv W hr
theorem gU_err {l : List Int} {a lo hi c : Int} (h : gU l a lo hi = .error c) : c ≠ 0 := by
 unfold gU at h
 split at h
 ·split at h
  ·cases h
  ·cases h; decide
 ·cases h; assumption
theorem gS_err {l : List Int} {a c : Int} (h : gS l a = .error c) : c ≠ 0 := by
 unfold gS at h
 split at h
 ·cases h
 ·cases h; assumption
theorem runS_err {l : List Int} {a h c : Int} (e : runS l a h = .error c) : c ≠ 0 := by
 unfold runS at e
 split at e
 ·rename_i h1; cases e; exact gU_err h1
 ·split at e
  ·rename_i h1; cases e; exact gU_err h1
  ·split at e
   ·split at e
    ·rename_i h1; cases e; exact gU_err h1
    ·cases e
   ·cases e
theorem goR_err {l : List Int} : ∀ (n : Nat) (a h : Int) (acc : List Rn) (c : Int), goR l n a h acc = .error c → c ≠ 0
 | 0, _, _, _, _, e => by rw [goR] at e; cases e
 | n + 1, a, h, acc, c, e => by
  rw [goR] at e
  split at e
  ·rename_i h1; cases e; exact runS_err h1
  ·split at e
   ·exact goR_err n _ _ _ _ e
   ·cases e; decide
theorem runsS_err {l : List Int} {a c : Int} (e : runsS l a = .error c) : c ≠ 0 := by
 unfold runsS at e
 split at e
 ·rename_i h1; cases e; exact gU_err h1
 ·split at e
  ·rename_i h1; cases e; exact goR_err _ _ _ _ _ h1
  ·split at e
   ·cases e
   ·cases e; decide
theorem goV_err {l : List Int} : ∀ (n : Nat) (a v : Int) (acc : List Int) (c : Int), goV l n a v acc = .error c → c ≠ 0
 | 0, _, _, _, _, e => by rw [goV] at e; cases e
 | n + 1, a, v, acc, c, e => by
  rw [goV] at e
  split at e
  ·rename_i h1; cases e; exact gS_err h1
  ·split at e
   ·exact goV_err n _ _ _ _ e
   ·cases e; decide
theorem tl1_err {l : List Int} {a r n d c : Int} (e : tl1 l a r n d = .error c) : c ≠ 0 := by
 unfold tl1 at e
 split at e
 ·rename_i h1; cases e; exact gS_err h1
 ·cases e
theorem tl2_err {l : List Int} {a r c : Int} (e : tl2 l a r = .error c) : c ≠ 0 := by
 unfold tl2 at e
 split at e
 ·rename_i h1; cases e; exact gS_err h1
 ·split at e
  ·rename_i h1; cases e; exact gU_err h1
  ·exact tl1_err e
theorem lineS_err {l : List Int} {a k c : Int} (e : lineS l a k = .error c) : c ≠ 0 := by
 unfold lineS at e
 split at e
 ·split at e
  ·rename_i h1; cases e; exact gU_err h1
  ·exact tl2_err e
 ·split at e
  ·exact tl2_err e
  ·exact tl1_err e
theorem finS_err {s : Sg} {a c : Int} (e : finS s a = .error c) : c ≠ 0 := by
 unfold finS at e
 split at e
 ·cases e
 ·cases e; decide
theorem kindS_err {l : List Int} {j : Nat} {c : Int} (e : kindS l j = .error c) : c ≠ 0 := by
 unfold kindS at e
 split at e
 ·cases e; decide
 ·split at e
  ·cases e
  ·cases e; decide
theorem segS_err {l : List Int} {j : Nat} {c : Int} (e : segS l j = .error c) : c ≠ 0 := by
 unfold segS at e
 split at e
 ·rename_i h1; cases e; exact kindS_err h1
 ·split at e
  ·rename_i h1; cases e; exact gU_err h1
  ·split at e
   ·rename_i h1; cases e; exact runsS_err h1
   ·split at e
    ·split at e
     ·rename_i h1; cases e; exact goV_err _ _ _ _ _ h1
     ·exact finS_err e
    ·split at e
     ·rename_i h1; cases e; exact lineS_err h1
     ·exact finS_err e
theorem getS_err {l : List Int} {p c : Int} (e : getS l p = .error c) : c ≠ 0 := by
 unfold getS at e
 split at e
 ·cases e; decide
 ·exact segS_err e
def decS (l : List Int) : Except Int (Sg × Int) := match getS l 0 with
 | .ok (s, a) => if a < (l.length : Int) then .error 7 else .ok (s, a)
 | .error c => .error c
def DecE (W : World) (r : Except Int (Sg × Int)) (e : Ending) (w' : World) : Prop := Below W.heap.size W w' ∧ match r with
 | .ok (s, _) => ∃ A n c A' n' c', e = .returned (.tuple #[sgV s.k (.slice A n c) s.a s.r s.n s.d (.slice A' n' c') s.e, .int .i64 0]) ∧ w'.ownsRow W.heap.size 44 3 (.slice A n c) s.R.length (flatR s.R) ∧ w'.ownsRow W.heap.size 2 1 (.slice A' n' c') s.V.length (s.V.map (Value.int .i64))
 | .error c => e = .returned (.tuple #[sgV 0 (.slice none 0 0) 0 0 0 0 (.slice none 0 0) 0, .int .i64 c])
theorem DecE.ok {W : World} {r : Except Int (Sg × Int)} {e : Ending} {w' : World} {s : Sg} {a : Int} (hr : r = .ok (s, a)) (hb : Below W.heap.size W w') (h : ∃ A n c A' n' c', e = .returned (.tuple #[sgV s.k (.slice A n c) s.a s.r s.n s.d (.slice A' n' c') s.e, .int .i64 0]) ∧ w'.ownsRow W.heap.size 44 3 (.slice A n c) s.R.length (flatR s.R) ∧ w'.ownsRow W.heap.size 2 1 (.slice A' n' c') s.V.length (s.V.map (Value.int .i64))) : DecE W r e w' := by
 subst hr
 exact ⟨hb, h⟩
theorem DecE.err {W : World} {r : Except Int (Sg × Int)} {w' : World} {c : Int} (hr : r = .error c) (hb : Below W.heap.size W w') : DecE W r (.returned (.tuple #[sgV 0 (.slice none 0 0) 0 0 0 0 (.slice none 0 0) 0, .int .i64 c])) w' := by
 subst hr
 exact ⟨hb, rfl⟩
theorem GetE.ways {W : World} {r : Except Int (Sg × Int)} {e : Ending} {w' : World} (h : GetE W r e w') : Below W.heap.size W w' ∧ ((∃ c, r = .error c ∧ e = .returned (.tuple #[sgV 0 (.slice none 0 0) 0 0 0 0 (.slice none 0 0) 0, .int .i64 0, .int .i64 c])) ∨ ∃ s a A n c A' n' c', r = .ok (s, a) ∧ e = .returned (.tuple #[sgV s.k (.slice A n c) s.a s.r s.n s.d (.slice A' n' c') s.e, .int .i64 a, .int .i64 0]) ∧ w'.ownsRow W.heap.size 44 3 (.slice A n c) s.R.length (flatR s.R) ∧ w'.ownsRow W.heap.size 2 1 (.slice A' n' c') s.V.length (s.V.map (Value.int .i64))) := by
 obtain ⟨hb, h⟩ := h
 cases r with
 | error c => exact ⟨hb, .inl ⟨c, rfl, h⟩⟩
 | ok p =>
  obtain ⟨A, n, c, A', n', c', h1, h2, h3⟩ := h
  exact ⟨hb, .inr ⟨p.1, p.2, A, n, c, A', n', c', rfl, h1, h2, h3⟩⟩
theorem BK.put8 {n : Nat} {w W : World} {b : Nat} {y0 y1 y2 y3 y4 y5 y6 y7 : Value} (h0 : n ≤ b) (h : BK n w [(b, 0, y0), (b, 1, y1), (b, 2, y2), (b, 3, y3), (b, 4, y4), (b, 5, y5), (b, 6, y6), (b, 7, y7)] W) (u0 u1 u2 u3 u4 u5 u6 u7 : Value) : BK n w [(b, 0, u0), (b, 1, u1), (b, 2, u2), (b, 3, u3), (b, 4, u4), (b, 5, u5), (b, 6, u6), (b, 7, u7)] ((((((((W.setCell ⟨b, 0, none⟩ u0).setCell ⟨b, 1, none⟩ u1).setCell ⟨b, 2, none⟩ u2).setCell ⟨b, 3, none⟩ u3).setCell ⟨b, 4, none⟩ u4).setCell ⟨b, 5, none⟩ u5).setCell ⟨b, 6, none⟩ u6).setCell ⟨b, 7, none⟩ u7) := by
 have k0 := h.put (o := 0) (M := [(b, 0, u0), (b, 1, y1), (b, 2, y2), (b, 3, y3), (b, 4, y4), (b, 5, y5), (b, 6, y6), (b, 7, y7)]) h0 h.2.1.2.1 u0 (by simp [updL])
 have k1 := k0.put (o := 1) (M := [(b, 0, u0), (b, 1, u1), (b, 2, y2), (b, 3, y3), (b, 4, y4), (b, 5, y5), (b, 6, y6), (b, 7, y7)]) h0 k0.2.2.1.2.1 u1 (by simp [updL])
 have k2 := k1.put (o := 2) (M := [(b, 0, u0), (b, 1, u1), (b, 2, u2), (b, 3, y3), (b, 4, y4), (b, 5, y5), (b, 6, y6), (b, 7, y7)]) h0 k1.2.2.2.1.2.1 u2 (by simp [updL])
 have k3 := k2.put (o := 3) (M := [(b, 0, u0), (b, 1, u1), (b, 2, u2), (b, 3, u3), (b, 4, y4), (b, 5, y5), (b, 6, y6), (b, 7, y7)]) h0 k2.2.2.2.2.1.2.1 u3 (by simp [updL])
 have k4 := k3.put (o := 4) (M := [(b, 0, u0), (b, 1, u1), (b, 2, u2), (b, 3, u3), (b, 4, u4), (b, 5, y5), (b, 6, y6), (b, 7, y7)]) h0 k3.2.2.2.2.2.1.2.1 u4 (by simp [updL])
 have k5 := k4.put (o := 5) (M := [(b, 0, u0), (b, 1, u1), (b, 2, u2), (b, 3, u3), (b, 4, u4), (b, 5, u5), (b, 6, y6), (b, 7, y7)]) h0 k4.2.2.2.2.2.2.1.2.1 u5 (by simp [updL])
 have k6 := k5.put (o := 6) (M := [(b, 0, u0), (b, 1, u1), (b, 2, u2), (b, 3, u3), (b, 4, u4), (b, 5, u5), (b, 6, u6), (b, 7, y7)]) h0 k5.2.2.2.2.2.2.2.1.2.1 u6 (by simp [updL])
 exact k6.put (o := 7) (M := [(b, 0, u0), (b, 1, u1), (b, 2, u2), (b, 3, u3), (b, 4, u4), (b, 5, u5), (b, 6, u6), (b, 7, u7)]) h0 k6.2.2.2.2.2.2.2.2.1.2.1 u7 (by simp [updL])
set_option maxRecDepth 100000 in
set_option maxHeartbeats 8000000 in
theorem decode_any (l : List Int) (hl : l.length ≤ 1000000) (hb : ∀ z ∈ l, 0 ≤ z ∧ z < 256) (bv : Value) (W : World) (hr : Reads .u8 W bv l) : Calls Tryz.prog 51 #[bv] W (DecE W (decS l)) := by
 have GA := Lib.hid (sget_any l hl hb 0 bv (W.alloc (.cells #[.int .i64 0, .slice none 0 0, .int .i64 0, .int .i64 0, .int .i64 0, .int .i64 0, .slice none 0 0, .int .i64 0] 27)) (hr.below (below_alloc W _)))
 obtain ⟨Ab, cb, rfl, _, _⟩ := id hr
 have hK : BK W.heap.size W [(W.heap.size, 0, .int .i64 0), (W.heap.size, 1, .slice none 0 0), (W.heap.size, 2, .int .i64 0), (W.heap.size, 3, .int .i64 0), (W.heap.size, 4, .int .i64 0), (W.heap.size, 5, .int .i64 0), (W.heap.size, 6, .slice none 0 0), (W.heap.size, 7, .int .i64 0)] (W.alloc (.cells #[.int .i64 0, .slice none 0 0, .int .i64 0, .int .i64 0, .int .i64 0, .int .i64 0, .slice none 0 0, .int .i64 0] 27)) := ⟨below_alloc W _, by simp [Cells, go_sem]⟩
 have hz : (W.alloc (.cells #[.int .i64 0, .slice none 0 0, .int .i64 0, .int .i64 0, .int .i64 0, .int .i64 0, .slice none 0 0, .int .i64 0] 27)).heap.size = W.heap.size + 1 := by simp
 clear hr hl hb
 go_enter Tryz.func51, Tryz.ntmps51
 go_wp2_with fail
 refine GA.out.mono ?_
 rintro e w1 hq
 obtain ⟨hb1,⟨c,hg,rfl⟩ | ⟨s,a,A,n,c,A',n',c',hg,rfl,hO,hV⟩⟩ := hq.ways
 ·have hc := getS_err hg
  have hE : decS l = .error c := by unfold decS; rw [hg]
  have t0 : (c == 0) = false := by simpa using hc
  have hK1 := hK.next hb1 (by omega)
  have hK2 := hK1.next (below_alloc w1 (.cells #[.int .i64 0, .slice none 0 0, .int .i64 0, .int .i64 0, .int .i64 0, .int .i64 0, .slice none 0 0, .int .i64 0] 27)) hK1.1.size
  have hC2 := Lib.hid (show Cells [(w1.heap.size, 0, .int .i64 0), (w1.heap.size, 1, .slice none 0 0), (w1.heap.size, 2, .int .i64 0), (w1.heap.size, 3, .int .i64 0), (w1.heap.size, 4, .int .i64 0), (w1.heap.size, 5, .int .i64 0), (w1.heap.size, 6, .slice none 0 0), (w1.heap.size, 7, .int .i64 0)] (w1.alloc (.cells #[.int .i64 0, .slice none 0 0, .int .i64 0, .int .i64 0, .int .i64 0, .int .i64 0, .slice none 0 0, .int .i64 0] 27)) by simp [Cells, go_sem])
  clear GA hq hg hb1 hK hK1
  obtain ⟨⟨kz0,kc0,kf0⟩,⟨kz1,kc1,kf1⟩,⟨kz2,kc2,kf2⟩,⟨kz3,kc3,kf3⟩,⟨kz4,kc4,kf4⟩,⟨kz5,kc5,kf5⟩,⟨kz6,kc6,kf6⟩,⟨kz7,kc7,kf7⟩,_⟩ := id hK2.2
  go_upto_region 4 with (fail)
  generalize w1.alloc (.cells #[.int .i64 0, .slice none 0 0, .int .i64 0, .int .i64 0, .int .i64 0, .int .i64 0, .slice none 0 0, .int .i64 0] 27) = w2 at *
  obtain ⟨⟨xz0,xc0,xf0⟩,⟨xz1,xc1,xf1⟩,⟨xz2,xc2,xf2⟩,⟨xz3,xc3,xf3⟩,⟨xz4,xc4,xf4⟩,⟨xz5,xc5,xf5⟩,⟨xz6,xc6,xf6⟩,⟨xz7,xc7,xf7⟩,_⟩ := hC2.out
  go_wp2_with fail
  have hK3 := hK2.put8 (Nat.le_refl _) (.int .i64 0) (.slice none 0 0) (.int .i64 0) (.int .i64 0) (.int .i64 0) (.int .i64 0) (.slice none 0 0) (.int .i64 0)
  clear hK2 xz0 xc0 xf0 xz1 xc1 xf1 xz2 xc2 xf2 xz3 xc3 xf3 xz4 xc4 xf4 xz5 xc5 xf5 xz6 xc6 xf6 xz7 xc7 xf7 kz0 kc0 kf0 kz1 kc1 kf1 kz2 kc2 kf2 kz3 kc3 kf3 kz4 kc4 kf4 kz5 kc5 kf5 kz6 kc6 kf6 kz7 kc7 kf7
  generalize (((((((w2.setCell ⟨W.heap.size, 0, none⟩ (.int .i64 0)).setCell ⟨W.heap.size, 1, none⟩ (.slice none 0 0)).setCell ⟨W.heap.size, 2, none⟩ (.int .i64 0)).setCell ⟨W.heap.size, 3, none⟩ (.int .i64 0)).setCell ⟨W.heap.size, 4, none⟩ (.int .i64 0)).setCell ⟨W.heap.size, 5, none⟩ (.int .i64 0)).setCell ⟨W.heap.size, 6, none⟩ (.slice none 0 0)).setCell ⟨W.heap.size, 7, none⟩ (.int .i64 0) = w3 at *
  obtain ⟨⟨kz0,kc0,kf0⟩,⟨kz1,kc1,kf1⟩,⟨kz2,kc2,kf2⟩,⟨kz3,kc3,kf3⟩,⟨kz4,kc4,kf4⟩,⟨kz5,kc5,kf5⟩,⟨kz6,kc6,kf6⟩,⟨kz7,kc7,kf7⟩,_⟩ := id hK3.2
  refine bodyPost_ret (v := .tuple #[.agg #[.int .i64 0, .slice none 0 0, .int .i64 0, .int .i64 0, .int .i64 0, .int .i64 0, .slice none 0 0, .int .i64 0], .int .i64 c]) (by simp [results, Tryz.results51, go_sem, kc0, kc1, kc2, kc3, kc4, kc5, kc6, kc7]) rfl ?_
  first | exact DecE.err hE hK3.1 | exact DecE.err rfl hK3.1
 ·have hK1 := hK.next hb1 (by omega)
  have hK2 := hK1.next (below_alloc w1 (.cells #[.int .i64 s.k, .slice A n c, .int .i64 s.a, .int .i64 s.r, .int .i64 s.n, .int .i64 s.d, .slice A' n' c', .int .i64 s.e] 27)) hK1.1.size
  have hC2 := Lib.hid (show Cells [(w1.heap.size, 0, .int .i64 s.k), (w1.heap.size, 1, .slice A n c), (w1.heap.size, 2, .int .i64 s.a), (w1.heap.size, 3, .int .i64 s.r), (w1.heap.size, 4, .int .i64 s.n), (w1.heap.size, 5, .int .i64 s.d), (w1.heap.size, 6, .slice A' n' c'), (w1.heap.size, 7, .int .i64 s.e)] (w1.alloc (.cells #[.int .i64 s.k, .slice A n c, .int .i64 s.a, .int .i64 s.r, .int .i64 s.n, .int .i64 s.d, .slice A' n' c', .int .i64 s.e] 27)) by simp [Cells, go_sem])
  have hO2 := Lib.hid (owns_below hO (below_alloc w1 (.cells #[.int .i64 s.k, .slice A n c, .int .i64 s.a, .int .i64 s.r, .int .i64 s.n, .int .i64 s.d, .slice A' n' c', .int .i64 s.e] 27)))
  have hV2 := Lib.hid (owns_below hV (below_alloc w1 (.cells #[.int .i64 s.k, .slice A n c, .int .i64 s.a, .int .i64 s.r, .int .i64 s.n, .int .i64 s.d, .slice A' n' c', .int .i64 s.e] 27)))
  rw [hz] at hO2 hV2
  clear GA hq hb1 hK hK1 hO hV
  obtain ⟨⟨kz0,kc0,kf0⟩,⟨kz1,kc1,kf1⟩,⟨kz2,kc2,kf2⟩,⟨kz3,kc3,kf3⟩,⟨kz4,kc4,kf4⟩,⟨kz5,kc5,kf5⟩,⟨kz6,kc6,kf6⟩,⟨kz7,kc7,kf7⟩,_⟩ := id hK2.2
  by_cases g : a < (l.length : Int)
  ·have hE : decS l = .error 7 := by unfold decS; rw [hg]; simp only; rw [if_pos g]
   clear hg
   go_upto_region 3 with (fail)
   generalize w1.alloc (.cells #[.int .i64 s.k, .slice A n c, .int .i64 s.a, .int .i64 s.r, .int .i64 s.n, .int .i64 s.d, .slice A' n' c', .int .i64 s.e] 27) = w2 at *
   go_wp2_with fail
   have hK3 := hK2.put8 (Nat.le_refl _) (.int .i64 0) (.slice none 0 0) (.int .i64 0) (.int .i64 0) (.int .i64 0) (.int .i64 0) (.slice none 0 0) (.int .i64 0)
   clear hK2 kz0 kc0 kf0 kz1 kc1 kf1 kz2 kc2 kf2 kz3 kc3 kf3 kz4 kc4 kf4 kz5 kc5 kf5 kz6 kc6 kf6 kz7 kc7 kf7
   generalize (((((((w2.setCell ⟨W.heap.size, 0, none⟩ (.int .i64 0)).setCell ⟨W.heap.size, 1, none⟩ (.slice none 0 0)).setCell ⟨W.heap.size, 2, none⟩ (.int .i64 0)).setCell ⟨W.heap.size, 3, none⟩ (.int .i64 0)).setCell ⟨W.heap.size, 4, none⟩ (.int .i64 0)).setCell ⟨W.heap.size, 5, none⟩ (.int .i64 0)).setCell ⟨W.heap.size, 6, none⟩ (.slice none 0 0)).setCell ⟨W.heap.size, 7, none⟩ (.int .i64 0) = w3 at *
   obtain ⟨⟨kz0,kc0,kf0⟩,⟨kz1,kc1,kf1⟩,⟨kz2,kc2,kf2⟩,⟨kz3,kc3,kf3⟩,⟨kz4,kc4,kf4⟩,⟨kz5,kc5,kf5⟩,⟨kz6,kc6,kf6⟩,⟨kz7,kc7,kf7⟩,_⟩ := id hK3.2
   refine bodyPost_ret (v := .tuple #[.agg #[.int .i64 0, .slice none 0 0, .int .i64 0, .int .i64 0, .int .i64 0, .int .i64 0, .slice none 0 0, .int .i64 0], .int .i64 7]) (by simp [results, Tryz.results51, go_sem, kc0, kc1, kc2, kc3, kc4, kc5, kc6, kc7]) rfl ?_
   first | exact DecE.err hE hK3.1 | exact DecE.err rfl hK3.1
  ·have hE : decS l = .ok (s, a) := by unfold decS; rw [hg]; simp only; rw [if_neg g]
   clear hg
   have t1 : decide (a < (l.length : Int)) = false := decide_eq_false g
   go_upto_region 4 with (fail)
   generalize w1.alloc (.cells #[.int .i64 s.k, .slice A n c, .int .i64 s.a, .int .i64 s.r, .int .i64 s.n, .int .i64 s.d, .slice A' n' c', .int .i64 s.e] 27) = w2 at *
   obtain ⟨⟨xz0,xc0,xf0⟩,⟨xz1,xc1,xf1⟩,⟨xz2,xc2,xf2⟩,⟨xz3,xc3,xf3⟩,⟨xz4,xc4,xf4⟩,⟨xz5,xc5,xf5⟩,⟨xz6,xc6,xf6⟩,⟨xz7,xc7,xf7⟩,_⟩ := hC2.out
   go_wp2_with fail
   have hK3 := hK2.put8 (Nat.le_refl _) (.int .i64 s.k) (.slice A n c) (.int .i64 s.a) (.int .i64 s.r) (.int .i64 s.n) (.int .i64 s.d) (.slice A' n' c') (.int .i64 s.e)
   have hO3 := owns8 (B := W.heap.size) (B' := W.heap.size) hO2.out (by omega) (by omega) (.int .i64 s.k) (.slice A n c) (.int .i64 s.a) (.int .i64 s.r) (.int .i64 s.n) (.int .i64 s.d) (.slice A' n' c') (.int .i64 s.e)
   have hV3 := owns8 (B := W.heap.size) (B' := W.heap.size) hV2.out (by omega) (by omega) (.int .i64 s.k) (.slice A n c) (.int .i64 s.a) (.int .i64 s.r) (.int .i64 s.n) (.int .i64 s.d) (.slice A' n' c') (.int .i64 s.e)
   clear hK2 hO2 hV2 xz0 xc0 xf0 xz1 xc1 xf1 xz2 xc2 xf2 xz3 xc3 xf3 xz4 xc4 xf4 xz5 xc5 xf5 xz6 xc6 xf6 xz7 xc7 xf7 kz0 kc0 kf0 kz1 kc1 kf1 kz2 kc2 kf2 kz3 kc3 kf3 kz4 kc4 kf4 kz5 kc5 kf5 kz6 kc6 kf6 kz7 kc7 kf7
   generalize (((((((w2.setCell ⟨W.heap.size, 0, none⟩ (.int .i64 s.k)).setCell ⟨W.heap.size, 1, none⟩ (.slice A n c)).setCell ⟨W.heap.size, 2, none⟩ (.int .i64 s.a)).setCell ⟨W.heap.size, 3, none⟩ (.int .i64 s.r)).setCell ⟨W.heap.size, 4, none⟩ (.int .i64 s.n)).setCell ⟨W.heap.size, 5, none⟩ (.int .i64 s.d)).setCell ⟨W.heap.size, 6, none⟩ (.slice A' n' c')).setCell ⟨W.heap.size, 7, none⟩ (.int .i64 s.e) = w3 at *
   obtain ⟨⟨kz0,kc0,kf0⟩,⟨kz1,kc1,kf1⟩,⟨kz2,kc2,kf2⟩,⟨kz3,kc3,kf3⟩,⟨kz4,kc4,kf4⟩,⟨kz5,kc5,kf5⟩,⟨kz6,kc6,kf6⟩,⟨kz7,kc7,kf7⟩,_⟩ := id hK3.2
   refine bodyPost_ret (v := .tuple #[.agg #[.int .i64 s.k, .slice A n c, .int .i64 s.a, .int .i64 s.r, .int .i64 s.n, .int .i64 s.d, .slice A' n' c', .int .i64 s.e], .int .i64 0]) (by simp [results, Tryz.results51, go_sem, kc0, kc1, kc2, kc3, kc4, kc5, kc6, kc7]) rfl ?_
   first | exact DecE.ok hE hK3.1 ⟨_, _, _, _, _, _, rfl, hO3, hV3⟩ | exact DecE.ok rfl hK3.1 ⟨_, _, _, _, _, _, rfl, hO3, hV3⟩
end Go.Proofs.YtcfidimnbamnkaaGreat.P12
