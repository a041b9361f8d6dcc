/- The model's loads, saves and swaps; what one may do just where one sees all. -/
import Derived.Test.YtbjapncfgancoaaDoorPl9
import Derived.Test.YtbjapncfgancoaaDoorSlim
namespace Go.Proofs.YtbjapncfgancoaaDoor
open Go.RowKit
set_option linter.unusedVariables false
set_option linter.unusedSimpArgs false
section
variable {P : Program} {Q : Exit → Act → World → Prop}
theorem calls_gen {f : FuncId} {args : Array Value} {R : Ending → World → Prop} {W : World} (F : World → Prop) (h : F W) (k : ∀ w, F w → Calls P f args w R) : Calls P f args W R := k W h
theorem wp_seq_gen2 {R : World → Prop} {W : World} (F : World → Prop) (h : F W) (k : ∀ w, F w → R w) : R W := k W h
theorem wpOp_gen {ops : Array Oper} {i : Nat} {K : Act → World → Prop} {a : Act} {W : World} (F : World → Prop) (h : F W) (k : ∀ w, F w → wpOp P ops Q i K a w) : wpOp P ops Q i K a W := k W h
theorem wp_seq_gen {R : Act → World → Prop} {a : Act} {W : World} (F : World → Prop) (h : F W) (k : ∀ w, F w → R a w) : R a W := k W h
end
theorem But.trans2 {L L' : List Nat} {a b c : World} (h : But L a b) (k : But L' b c) (hL : ∀ x, x ∈ L' → x ∈ L ∨ a.heap.size ≤ x) : But L a c :=
 ⟨k.os.trans h.os, k.tape.trans h.tape, k.output.trans h.output, Nat.le_trans h.size k.size, fun i hi hn => (k.block i (Nat.lt_of_lt_of_le hi h.size) (fun hm => by rcases hL i hm with h1 | h1; exact hn h1; omega)).trans (h.block i hi hn)⟩
abbrev ev00 : Ev := ⟨0, 0, 0, 0, 0, 0, 0⟩
/-- Behind a part of a step: the machine, in its rows, and the event. -/
def MP (s' : St) (e' : Ev) (gr gc gm cr cc cm : Nat) (u : World) (e : Ending) (u' : World) : Prop :=
 e = .returned (.tuple #[.agg #[.int .i64 s'.pc, .slice (some ⟨gr, 0, none⟩) 8 cr, .slice (some ⟨gc, 0, none⟩) 5 cc, .slice (some ⟨gm, 0, none⟩) 256 cm], .agg #[.int .i64 (e').pc, .int .i64 (e').w, .int .i64 (e').why, .int .i64 (e').d, .int .i64 (e').v, .int .i64 (e').ad, .int .i64 (e').dt]]) ∧ Own u' gr gc gm s' ∧ But [gr, gc, gm] u u'
/-- What lies beside a machine in a part of a step. -/
structure Lo (v : World) (B : Nat) (s : St) (gr gc gm cr cc cm : Nat) (k d a b f n : Int) (e : Ev) : Prop where
 S : Box4 v B (.int .i64 s.pc) (.slice (some ⟨gr, 0, none⟩) 8 cr) (.slice (some ⟨gc, 0, none⟩) 5 cc) (.slice (some ⟨gm, 0, none⟩) 256 cm)
 C : Box v (B + 1) k d a b f n
 E : Box7 v (B + 2) e
 Z : Box4 v (B + 3) (.int .i64 0) (.slice none 0 0) (.slice none 0 0) (.slice none 0 0)
 Y : Box7 v (B + 4) ev00
 O : Own v gr gc gm s
set_option maxRecDepth 8000 in
set_option maxHeartbeats 4000000 in
theorem spec_Mem_3 (s : St) (e : Ev) (gr gc gm cr cc cm : Nat) (d a b f n : Int) (u00 : World) (ho : Own u00 gr gc gm s) (hk : OkS s) (hi : iok 3 d a b f n = true) (hs : 0 ≤ see s.C s.M ((rg s a + n) % 65536) false) :
  Calls Tryd.prog 86 #[.agg #[.int .i64 s.pc, .slice (some ⟨gr, 0, none⟩) 8 cr, .slice (some ⟨gc, 0, none⟩) 5 cc, .slice (some ⟨gm, 0, none⟩) 256 cm], .agg #[.int .i64 3, .int .i64 d, .int .i64 a, .int .i64 b, .int .i64 f, .int .i64 n], .agg #[.int .i64 (e).pc, .int .i64 (e).w, .int .i64 (e).why, .int .i64 (e).d, .int .i64 (e).v, .int .i64 (e).ad, .int .i64 (e).dt]] u00 (MP ⟨nx s, putR s.R d (mm s (see s.C s.M ((rg s a + n) % 65536) false)), s.C, s.M⟩ { e with ad := -1, dt := 0, d := d, v := mm s (see s.C s.M ((rg s a + n) % 65536) false) } gr gc gm cr cc cm u00) := by
 obtain ⟨⟨d0, d1⟩, ⟨a0, a1⟩, ⟨b0, b1⟩, ⟨f0, f1⟩, n0, n1⟩ := sok_bd (sok_of hi)
 have lr := ho.R.lt
 have lc := ho.C.lt
 have lm := ho.M.lt
 have HK := Lib.hid hk
 have HO0 := Lib.hid ho
 have HCl := Lib.hid hk.Cl
 have HC3 := Lib.hid (And.intro (ok_get hk.C 3).1 hk.c3)
 have ra := ok_get hk.R a.toNat
 have ca := ho.R.cel a.toNat (by have := hk.Rl; omega)
 have cb := ho.R.cel b.toNat (by have := hk.Rl; omega)
 have pb := okB_true hk.pc
 have a8 : a < 8 := by omega
 have b8 : b < 8 := by omega
 have hab : 0 ≤ (rg s a + n) % 65536 ∧ (rg s a + n) % 65536 < 65536 := by omega
 have EP := Lib.hid (fun (v : World) (ov : Own v gr gc gm s) => spec_l4Page s.C s.M (some ⟨gc, 0, none⟩) (some ⟨gm, 0, none⟩) cc cm ((rg s a + n) % 65536) false v ov.C.src ov.M.src hk.Cl hk.Ml hk.C hk.M hab.1 hab.2)
 rw [hk.Cl, hk.Ml] at EP
 have HQ := see_bd s.C s.M ((rg s a + n) % 65536) false hab.1
 have HRl := Lib.hid (show a.toNat < s.R.length by have := hk.Rl; omega)
 have HRb := Lib.hid (show b.toNat < s.R.length by have := hk.Rl; omega)
 have HMl := Lib.hid hk.Ml
 have HRL := Lib.hid hk.Rl
 have hra : 0 ≤ rg s a ∧ rg s a < 65536 := okB_true (rg_ok hk a)
 generalize hq : see s.C s.M ((rg s a + n) % 65536) false = q at *
 clear hq
 obtain ⟨x, hx⟩ : ∃ x, x = rg s a := ⟨_, rfl⟩
 obtain ⟨y, hy⟩ : ∃ y, y = rg s b := ⟨_, rfl⟩
 obtain ⟨m, hm⟩ : ∃ m, m = mm s q := ⟨_, rfl⟩
 have HX := Lib.hid (show s.R.getD a.toNat 0 = x from hx.symm)
 have HYY := Lib.hid (show s.R.getD b.toNat 0 = y from hy.symm)
 have HM := Lib.hid (show s.M.getD q.toNat 0 = m from hm.symm)
 rw [← hx] at EP hra hab
 rw [← hm]
 clear hx hy hm ca cb ra ho hi hk
 go_enter Tryd.func86, Tryd.ntmps86
 go_wp2_with fail
 refine wp_gen (fun v => Lo v u00.heap.size s gr gc gm cr cc cm 3 d a b f n e ∧ But [gr, gc, gm] u00 v) ⟨⟨?_, ?_, ?_, ?_, ?_, ?_⟩, ?_⟩ ?_
 ·(repeat with_reducible first | assumption | exact Box4.new _ _ _ _ _ _ _ (by first | rfl | simp | (simp; omega)) | refine Box4.alloc ?_ _ | refine Box4.drew ?_ | refine Box4.drewN ?_ _ | refine Box4.other ?_ _ _ _ (by omega))
 ·(repeat with_reducible first | assumption | exact Box.new6 _ _ _ _ _ _ _ _ _ (by first | rfl | simp | (simp; omega)) | refine Box.alloc ?_ _ | refine Box.drew ?_ | refine Box.drewN ?_ _ | refine Box.other ?_ _ _ _ (by omega))
 ·(repeat with_reducible first | assumption | exact Box7.new _ _ _ _ (by first | rfl | simp | (simp; omega)) | exact Box7.newv _ _ _ _ _ _ _ _ _ _ (by first | rfl | simp | (simp; omega)) | refine Box7.alloc ?_ _ | refine Box7.drew ?_ | refine Box7.drewN ?_ _ | refine Box7.other ?_ _ _ _ (by omega))
 ·(repeat with_reducible first | assumption | exact Box4.new _ _ _ _ _ _ _ (by first | rfl | simp | (simp; omega)) | refine Box4.alloc ?_ _ | refine Box4.drew ?_ | refine Box4.drewN ?_ _ | refine Box4.other ?_ _ _ _ (by omega))
 ·(repeat with_reducible first | assumption | exact Box7.new _ _ _ _ (by first | rfl | simp | (simp; omega)) | exact Box7.newv _ _ _ _ _ _ _ _ _ _ (by first | rfl | simp | (simp; omega)) | refine Box7.alloc ?_ _ | refine Box7.drew ?_ | refine Box7.drewN ?_ _ | refine Box7.other ?_ _ _ _ (by omega))
 ·(repeat with_reducible first | refine Own.alloc ?_ _ | refine Own.drew ?_ | refine Own.drewN ?_ _ | refine Own.other ?_ _ _ _ (by omega) (by omega) (by omega))
  exact HO0.out
 ·(repeat with_reducible first | exact But.refl _ _ | assumption | refine But.alloc ?_ _ | refine But.drew ?_ | refine But.drewN ?_ _ | refine But.set ?_ _ _ _ (by first | (left; simp; done) | (right; simp; done) | (right; omega) | (right; simp; omega)))
 simp only [Nat.add_assoc, Nat.reduceAdd]
 rintro v ⟨lo, hB⟩
 have HLo := Lib.hid lo
 have HBt := Lib.hid hB
 have hsz := hB.size
 have ca := lo.O.R.cel a.toNat HRl.out
 have cb := lo.O.R.cel b.toNat HRb.out
 rw [HX.out] at ca
 rw [HYY.out] at cb
 obtain ⟨⟨g1, s0, s1, s2, s3, S0, S1, S2, S3⟩, ⟨i0, i1, i2, i3, i4, i5⟩, ⟨g5, e0, e1, e2, e3, e4, e5, e6, E0, E1, E2, E3, E4, E5, E6⟩, g6, g7, g8⟩ := lo
 clear hB g1 g5 g6 g7 g8
 go_quiet ((go_at_call 110; refine quiet_mine (spec_l1Wrap _ _)))
 refine wp_seq_gen (fun v => Lo v u00.heap.size s gr gc gm cr cc cm 3 d a b f n e ∧ But [gr, gc, gm] u00 v) ⟨?_, ?_⟩ ?_
 ·obtain ⟨q1, q2, q3, q4, q5, q6⟩ := HLo.out
  exact ⟨q1.drewN _, q2.drewN _, q3.drewN _, q4.drewN _, q5.drewN _, q6.drewN _⟩
 ·exact HBt.out.drewN _
 clear s0 s1 s2 s3 S0 S1 S2 S3 i0 i1 i2 i3 i4 i5 e0 e1 e2 e3 e4 e5 e6 E0 E1 E2 E3 E4 E5 E6 ca cb hsz
 clear HLo HBt
 clear v
 rintro v1 ⟨lo, hB⟩
 have HLo := Lib.hid lo
 have HBt := Lib.hid hB
 have hsz := hB.size
 have ca := lo.O.R.cel a.toNat HRl.out
 have cb := lo.O.R.cel b.toNat HRb.out
 rw [HX.out] at ca
 rw [HYY.out] at cb
 have cq := lo.O.M.cel q.toNat (by rw [HMl.out]; omega)
 have fq := lo.O.M.fro q.toNat (by rw [HMl.out]; omega)
 rw [HM.out] at cq
 obtain ⟨⟨g1, s0, s1, s2, s3, S0, S1, S2, S3⟩, ⟨i0, i1, i2, i3, i4, i5⟩, ⟨g5, e0, e1, e2, e3, e4, e5, e6, E0, E1, E2, E3, E4, E5, E6⟩, g6, g7, g8⟩ := lo
 clear hB g1 g5 g6 g7 g8
 go_wp2_with fail
 refine (EP.out v1 HLo.out.O).mono ?_
 rintro e' w' ⟨rfl, rfl⟩
 go_wp2_with fail
 refine calls_gen (fun v => Lo v u00.heap.size s gr gc gm cr cc cm 3 d a b f n { e with ad := -1, dt := 0, d := d, v := m } ∧ But [gr, gc, gm] u00 v) ⟨⟨?_, ?_, ?_, ?_, ?_, ?_⟩, ?_⟩ ?_
 ·have q1 := HLo.out.S
  (repeat with_reducible first | assumption | exact Box4.new _ _ _ _ _ _ _ (by first | rfl | simp | (simp; omega)) | refine Box4.alloc ?_ _ | refine Box4.drew ?_ | refine Box4.drewN ?_ _ | refine Box4.other ?_ _ _ _ (by omega))
 ·have q1 := HLo.out.C
  (repeat with_reducible first | assumption | exact Box.new6 _ _ _ _ _ _ _ _ _ (by first | rfl | simp | (simp; omega)) | refine Box.alloc ?_ _ | refine Box.drew ?_ | refine Box.drewN ?_ _ | refine Box.other ?_ _ _ _ (by omega))
 ·have q1 := HLo.out.E
  exact (((((q1.set5 q).set6 y).set5 (-1)).set6 0).set3 d).set4 m
 ·have q1 := HLo.out.Z
  (repeat with_reducible first | assumption | exact Box4.new _ _ _ _ _ _ _ (by first | rfl | simp | (simp; omega)) | refine Box4.alloc ?_ _ | refine Box4.drew ?_ | refine Box4.drewN ?_ _ | refine Box4.other ?_ _ _ _ (by omega))
 ·have q1 := HLo.out.Y
  (repeat with_reducible first | assumption | exact Box7.new _ _ _ _ (by first | rfl | simp | (simp; omega)) | exact Box7.newv _ _ _ _ _ _ _ _ _ _ (by first | rfl | simp | (simp; omega)) | refine Box7.alloc ?_ _ | refine Box7.drew ?_ | refine Box7.drewN ?_ _ | refine Box7.other ?_ _ _ _ (by omega))
 ·have q1 := HLo.out.O
  (repeat with_reducible first | refine Own.alloc ?_ _ | refine Own.drew ?_ | refine Own.drewN ?_ _ | refine Own.other ?_ _ _ _ (by omega) (by omega) (by omega))
  exact q1
 ·have hB := HBt.out
  (repeat with_reducible first | exact But.refl _ _ | assumption | refine But.alloc ?_ _ | refine But.drew ?_ | refine But.drewN ?_ _ | refine But.set ?_ _ _ _ (by first | (left; simp; done) | (right; simp; done) | (right; omega) | (right; simp; omega)))
 clear s0 s1 s2 s3 S0 S1 S2 S3 i0 i1 i2 i3 i4 i5 e0 e1 e2 e3 e4 e5 e6 E0 E1 E2 E3 E4 E5 E6 ca cb cq fq hsz
 clear HLo HBt
 clear v1
 rintro v4 ⟨lo, hB⟩
 have hsz := hB.size
 refine (spec_l4Put s gr gc gm cr cc cm d m v4 lo.O HRL.out d0 d1).mono ?_
 rintro e' v5 ⟨rfl, ho', hB'⟩
 refine wp_seq_gen2 (fun v => Lo v u00.heap.size (⟨s.pc, putR s.R d m, s.C, s.M⟩ : St) gr gc gm cr cc cm 3 d a b f n { e with ad := -1, dt := 0, d := d, v := m } ∧ But [gr, gc, gm] u00 v) ⟨⟨lo.S.but hB' (by simp; omega), lo.C.but hB' (by simp; omega), lo.E.but hB' (by simp; omega), lo.Z.but hB' (by simp; omega), lo.Y.but hB' (by simp; omega), ho'⟩, hB.trans2 hB' (fun k hk => by simp at hk; simp [hk])⟩ ?_
 clear lo hB ho' hB' hsz
 clear v4 v5
 rintro v6 ⟨lo, hB⟩
 have HLo := Lib.hid lo
 have HBt := Lib.hid hB
 have hsz := hB.size
 obtain ⟨⟨g1, s0, s1, s2, s3, S0, S1, S2, S3⟩, ⟨i0, i1, i2, i3, i4, i5⟩, ⟨g5, e0, e1, e2, e3, e4, e5, e6, E0, E1, E2, E3, E4, E5, E6⟩, g6, g7, g8⟩ := lo
 clear hB g1 g5 g6 g7 g8
 go_wp2_with (go_at_call 110; refine (spec_l1Wrap _ _).mono ?_; rintro e' w' ⟨rfl, rfl⟩)
 refine wp_gen (fun v => Lo v u00.heap.size (⟨nx s, putR s.R d m, s.C, s.M⟩ : St) gr gc gm cr cc cm 3 d a b f n { e with ad := -1, dt := 0, d := d, v := m } ∧ But [gr, gc, gm] u00 v) ⟨⟨?_, ?_, ?_, ?_, ?_, ?_⟩, ?_⟩ ?_
 ·have q1 := HLo.out.S
  exact (q1.set _ _ _ _).set0 _
 ·have q1 := HLo.out.C
  (repeat with_reducible first | assumption | exact Box.new6 _ _ _ _ _ _ _ _ _ (by first | rfl | simp | (simp; omega)) | refine Box.alloc ?_ _ | refine Box.drew ?_ | refine Box.drewN ?_ _ | refine Box.other ?_ _ _ _ (by omega))
 ·have q1 := HLo.out.E
  (repeat with_reducible first | assumption | exact Box7.new _ _ _ _ (by first | rfl | simp | (simp; omega)) | exact Box7.newv _ _ _ _ _ _ _ _ _ _ (by first | rfl | simp | (simp; omega)) | refine Box7.alloc ?_ _ | refine Box7.drew ?_ | refine Box7.drewN ?_ _ | refine Box7.other ?_ _ _ _ (by omega))
 ·have q1 := HLo.out.Z
  (repeat with_reducible first | assumption | exact Box4.new _ _ _ _ _ _ _ (by first | rfl | simp | (simp; omega)) | refine Box4.alloc ?_ _ | refine Box4.drew ?_ | refine Box4.drewN ?_ _ | refine Box4.other ?_ _ _ _ (by omega))
 ·have q1 := HLo.out.Y
  (repeat with_reducible first | assumption | exact Box7.new _ _ _ _ (by first | rfl | simp | (simp; omega)) | exact Box7.newv _ _ _ _ _ _ _ _ _ _ (by first | rfl | simp | (simp; omega)) | refine Box7.alloc ?_ _ | refine Box7.drew ?_ | refine Box7.drewN ?_ _ | refine Box7.other ?_ _ _ _ (by omega))
 ·have q1 := HLo.out.O
  (repeat with_reducible first | refine Own.alloc ?_ _ | refine Own.drew ?_ | refine Own.drewN ?_ _ | refine Own.other ?_ _ _ _ (by omega) (by omega) (by omega))
  exact q1.pc (nx s)
 ·have hB := HBt.out
  (repeat with_reducible first | exact But.refl _ _ | assumption | refine But.alloc ?_ _ | refine But.drew ?_ | refine But.drewN ?_ _ | refine But.set ?_ _ _ _ (by first | (left; simp; done) | (right; simp; done) | (right; omega) | (right; simp; omega)))
 clear s0 s1 s2 s3 S0 S1 S2 S3 i0 i1 i2 i3 i4 i5 e0 e1 e2 e3 e4 e5 e6 E0 E1 E2 E3 E4 E5 E6 hsz
 clear HLo HBt
 clear v6
 rintro v0 ⟨lo, hB⟩
 have HLo := Lib.hid lo
 have HBt := Lib.hid hB
 have hsz := hB.size
 obtain ⟨⟨g1, s0, s1, s2, s3, S0, S1, S2, S3⟩, ⟨i0, i1, i2, i3, i4, i5⟩, ⟨g5, e0, e1, e2, e3, e4, e5, e6, E0, E1, E2, E3, E4, E5, E6⟩, g6, g7, g8⟩ := lo
 clear hB g1 g5 g6 g7 g8
 have HS := Lib.hid HLo.out.S
 have HE := Lib.hid HLo.out.E
 have HZ := Lib.hid HLo.out.Z
 have HY := Lib.hid HLo.out.Y
 have HO := Lib.hid HLo.out.O
 clear s0 s1 s2 s3 S0 S1 S2 S3 i0 i1 i2 i3 i4 i5 e0 e1 e2 e3 e4 e5 e6 E0 E1 E2 E3 E4 E5 E6 hsz
 clear HLo
 refine wp_region_rows 91 3 [u00.heap.size + 3] (fun i => if i = 2 then [u00.heap.size + 3] else []) lb1_in (fun i => false) (fun i v u => match i with | 0 => v = .agg #[.int .i64 (nx s), .slice (some ⟨gr, 0, none⟩) 8 cr, .slice (some ⟨gc, 0, none⟩) 5 cc, .slice (some ⟨gm, 0, none⟩) 256 cm] | 1 => v = .agg #[.int .i64 ({ e with ad := -1, dt := 0, d := d, v := m }).pc, .int .i64 ({ e with ad := -1, dt := 0, d := d, v := m }).w, .int .i64 ({ e with ad := -1, dt := 0, d := d, v := m }).why, .int .i64 ({ e with ad := -1, dt := 0, d := d, v := m }).d, .int .i64 ({ e with ad := -1, dt := 0, d := d, v := m }).v, .int .i64 ({ e with ad := -1, dt := 0, d := d, v := m }).ad, .int .i64 ({ e with ad := -1, dt := 0, d := d, v := m }).dt] | 2 => v = undef ∧ Box4 u (u00.heap.size + 3) (.int .i64 (nx s)) (.slice (some ⟨gr, 0, none⟩) 8 cr) (.slice (some ⟨gc, 0, none⟩) 5 cc) (.slice (some ⟨gm, 0, none⟩) 256 cm) | _ => True) ?mono (by kernel_rfl) (by kernel_rfl) rfl (by kernel_rfl) (by kernel_rfl) (by decide) ?step ?fin
 case mono =>
  intro i j v u u' hi hij hdj hsz h hB
  rcases j with _ | _ | _ | j
  ·exact h
  ·exact h
  ·refine ⟨h.1, ?_⟩
   have hB' : But [] u u' := hB.mono (fun k hk _ => lb1_out i hij k hk)
   exact h.2.but hB' (by simp)
  ·trivial
 case step =>
  intro i o ho hiz
  rcases i with _ | _ | _ | _ | i
  ·clear hiz
   cases ho
   intro act u hB hL hdep hap hnw
   replace hB := hB [u00.heap.size + 3] (fun j _ k hk => lb1_in j k hk)
   have x3 := out_val hL (k := 3) (by kernel_rfl) rfl rfl
   clear hdep hL hap hnw
   have Bx := HS.out.but hB (by simp; try omega)
   obtain ⟨lt, c0, c1, c2, c3, _, _, _, _⟩ := Bx
   refine wpOp_step rfl (fun K hK => ?_)
   go_simp
   exact hK _ _ ⟨_, rfl, (fun h => by cases h), rfl, But.refl _ _, (fun h => by cases h)⟩
  ·clear hiz
   cases ho
   intro act u hB hL hdep hap hnw
   replace hB := hB [u00.heap.size + 3] (fun j _ k hk => lb1_in j k hk)
   have x5 := out_val hL (k := 5) (by kernel_rfl) rfl rfl
   clear hdep hL hap hnw
   have Bx := HE.out.but hB (by simp; try omega)
   obtain ⟨lt, c0, c1, c2, c3, c4, c5, c6, _, _, _, _, _, _, _⟩ := Bx
   refine wpOp_step rfl (fun K hK => ?_)
   go_simp
   exact hK _ _ ⟨_, rfl, (fun h => by cases h), rfl, But.refl _ _, (fun h => by cases h)⟩
  ·clear hiz
   cases ho
   intro act u hB hL hdep hap hnw
   replace hB := hB [] lb1_out
   have e0 : act.tmps.getD 89 undef = _ := hdep { on := 0, ground := .data } (by simp) rfl _ rfl
   have x6 := out_val hL (k := 6) (by kernel_rfl) rfl rfl
   clear hdep hL hap hnw
   have Bz0 := HZ.out.but hB (by simp; try omega)
   have Bz1 := Bz0
   obtain ⟨lt, c0, c1, c2, c3, f0, f1, f2, f3⟩ := Bz1
   refine wpOp_step rfl (fun K hK => ?_)
   go_simp
   exact hK _ _ ⟨undef, rfl, (fun _ => rfl), ⟨rfl, Bz0.set (.int .i64 (nx s)) (.slice (some ⟨gr, 0, none⟩) 8 cr) (.slice (some ⟨gc, 0, none⟩) 5 cc) (.slice (some ⟨gm, 0, none⟩) 256 cm)⟩, (But.refl _ _).set4 (u00.heap.size + 3) _ _ _ _ (.inl (by simp)), (fun h => by cases h)⟩
  ·exact absurd rfl hiz
  ·exact absurd ho (by simp)
 case fin =>
  intro act u hB hL hsf hap hnw
  have d1 := hsf 1 _ rfl (by decide)
  have d2 := hsf 2 _ rfl (by decide)
  obtain ⟨ysl, ha, hy⟩ := hL.puts [89, 90] (by kernel_rfl)
  have e1 : ysl 90 = _ := (hy 90).symm.trans d1
  obtain ⟨h2, Bz⟩ := d2
  clear hL hsf hy hap hnw d1
  simp only [List.foldl, List.setIfInBounds_toArray, List.set_cons_succ, List.set_cons_zero, e1] at ha
  subst ha
  clear e1
  have ow1 : Own u gr gc gm (⟨nx s, putR s.R d m, s.C, s.M⟩ : St) := HO.out.but hB (by simp; omega) (by simp; omega) (by simp; omega)
  have Bz1 := Bz
  obtain ⟨_, z0, z1, z2, z3, _, _, _, _⟩ := Bz1
  have By := HY.out.but hB (by simp; try omega)
  have By1 := By
  obtain ⟨yl, y0, y1, y2, y3, y4, y5, y6, x0, x1, x2, x3, x4, x5, x6⟩ := By1
  have hB2 : But [gr, gc, gm] u00 u := HBt.out.trans2 hB (fun k hk => by simp at hk ⊢; omega)
  refine wpOp_step rfl (fun K hK => ?_)
  go_simp
  refine hK _ _ ?_
  refine wp_seq_gen (fun t => Own t gr gc gm (⟨nx s, putR s.R d m, s.C, s.M⟩ : St) ∧ Box4 t (u00.heap.size + 3) (.int .i64 (nx s)) (.slice (some ⟨gr, 0, none⟩) 8 cr) (.slice (some ⟨gc, 0, none⟩) 5 cc) (.slice (some ⟨gm, 0, none⟩) 256 cm) ∧ Box7 t (u00.heap.size + 4) ({ e with ad := -1, dt := 0, d := d, v := m }) ∧ But [gr, gc, gm] u00 t) ⟨?_, ?_, ?_, ?_⟩ ?_
  ·(repeat with_reducible first | refine Own.alloc ?_ _ | refine Own.drew ?_ | refine Own.drewN ?_ _ | refine Own.other ?_ _ _ _ (by omega) (by omega) (by omega))
   exact ow1
  ·(repeat with_reducible first | assumption | exact Box4.new _ _ _ _ _ _ _ (by first | rfl | simp | (simp; omega)) | refine Box4.alloc ?_ _ | refine Box4.drew ?_ | refine Box4.drewN ?_ _ | refine Box4.other ?_ _ _ _ (by omega))
  ·exact ((((((By.set0 _).set1 _).set2 _).set3 _).set4 _).set5 _).set6 _
  ·(repeat with_reducible first | exact But.refl _ _ | assumption | refine But.alloc ?_ _ | refine But.drew ?_ | refine But.drewN ?_ _ | refine But.set ?_ _ _ _ (by first | (left; simp; done) | (right; simp; done) | (right; omega) | (right; simp; omega)))
  clear z0 z1 z2 z3 y0 y1 y2 y3 y4 y5 y6 x0 x1 x2 x3 x4 x5 x6 By Bz ow1 hB2 hB yl
  rintro t ⟨ow2, bz, by', hB2⟩
  obtain ⟨_, z0, z1, z2, z3, _, _, _, _⟩ := bz
  obtain ⟨_, y0, y1, y2, y3, y4, y5, y6, _, _, _, _, _, _, _⟩ := by'
  go_wp2
  refine bodyPost_ret (v := .tuple #[.agg #[.int .i64 (nx s), .slice (some ⟨gr, 0, none⟩) 8 cr, .slice (some ⟨gc, 0, none⟩) 5 cc, .slice (some ⟨gm, 0, none⟩) 256 cm], .agg #[.int .i64 ({ e with ad := -1, dt := 0, d := d, v := m }).pc, .int .i64 ({ e with ad := -1, dt := 0, d := d, v := m }).w, .int .i64 ({ e with ad := -1, dt := 0, d := d, v := m }).why, .int .i64 ({ e with ad := -1, dt := 0, d := d, v := m }).d, .int .i64 ({ e with ad := -1, dt := 0, d := d, v := m }).v, .int .i64 ({ e with ad := -1, dt := 0, d := d, v := m }).ad, .int .i64 ({ e with ad := -1, dt := 0, d := d, v := m }).dt]]) (by simp [results, Tryd.results86, go_sem, z0, z1, z2, z3, y0, y1, y2, y3, y4, y5, y6]) rfl ?_
  exact ⟨rfl, ow2, hB2⟩
set_option maxRecDepth 8000 in
set_option maxHeartbeats 4000000 in
theorem spec_Mem_4 (s : St) (e : Ev) (gr gc gm cr cc cm : Nat) (d a b f n : Int) (u00 : World) (ho : Own u00 gr gc gm s) (hk : OkS s) (hi : iok 4 d a b f n = true) (hs : 0 ≤ see s.C s.M ((rg s a + n) % 65536) true) :
  Calls Tryd.prog 86 #[.agg #[.int .i64 s.pc, .slice (some ⟨gr, 0, none⟩) 8 cr, .slice (some ⟨gc, 0, none⟩) 5 cc, .slice (some ⟨gm, 0, none⟩) 256 cm], .agg #[.int .i64 4, .int .i64 d, .int .i64 a, .int .i64 b, .int .i64 f, .int .i64 n], .agg #[.int .i64 (e).pc, .int .i64 (e).w, .int .i64 (e).why, .int .i64 (e).d, .int .i64 (e).v, .int .i64 (e).ad, .int .i64 (e).dt]] u00 (MP ⟨nx s, s.R, s.C, s.M.set (see s.C s.M ((rg s a + n) % 65536) true).toNat (rg s b)⟩ { e with ad := see s.C s.M ((rg s a + n) % 65536) true, dt := rg s b } gr gc gm cr cc cm u00) := by
 obtain ⟨⟨d0, d1⟩, ⟨a0, a1⟩, ⟨b0, b1⟩, ⟨f0, f1⟩, n0, n1⟩ := sok_bd (sok_of hi)
 have lr := ho.R.lt
 have lc := ho.C.lt
 have lm := ho.M.lt
 have HK := Lib.hid hk
 have HO0 := Lib.hid ho
 have HCl := Lib.hid hk.Cl
 have HC3 := Lib.hid (And.intro (ok_get hk.C 3).1 hk.c3)
 have ra := ok_get hk.R a.toNat
 have ca := ho.R.cel a.toNat (by have := hk.Rl; omega)
 have cb := ho.R.cel b.toNat (by have := hk.Rl; omega)
 have pb := okB_true hk.pc
 have a8 : a < 8 := by omega
 have b8 : b < 8 := by omega
 have hab : 0 ≤ (rg s a + n) % 65536 ∧ (rg s a + n) % 65536 < 65536 := by omega
 have EP := Lib.hid (fun (v : World) (ov : Own v gr gc gm s) => spec_l4Page s.C s.M (some ⟨gc, 0, none⟩) (some ⟨gm, 0, none⟩) cc cm ((rg s a + n) % 65536) true v ov.C.src ov.M.src hk.Cl hk.Ml hk.C hk.M hab.1 hab.2)
 rw [hk.Cl, hk.Ml] at EP
 have HQ := see_bd s.C s.M ((rg s a + n) % 65536) true hab.1
 have HRl := Lib.hid (show a.toNat < s.R.length by have := hk.Rl; omega)
 have HRb := Lib.hid (show b.toNat < s.R.length by have := hk.Rl; omega)
 have HMl := Lib.hid hk.Ml
 have HRL := Lib.hid hk.Rl
 have hra : 0 ≤ rg s a ∧ rg s a < 65536 := okB_true (rg_ok hk a)
 generalize hq : see s.C s.M ((rg s a + n) % 65536) true = q at *
 clear hq
 obtain ⟨x, hx⟩ : ∃ x, x = rg s a := ⟨_, rfl⟩
 obtain ⟨y, hy⟩ : ∃ y, y = rg s b := ⟨_, rfl⟩
 obtain ⟨m, hm⟩ : ∃ m, m = mm s q := ⟨_, rfl⟩
 have HX := Lib.hid (show s.R.getD a.toNat 0 = x from hx.symm)
 have HYY := Lib.hid (show s.R.getD b.toNat 0 = y from hy.symm)
 have HM := Lib.hid (show s.M.getD q.toNat 0 = m from hm.symm)
 rw [← hx] at EP hra hab
 rw [← hy]
 clear hx hy hm ca cb ra ho hi hk
 go_enter Tryd.func86, Tryd.ntmps86
 go_wp2_with fail
 refine wp_gen (fun v => Lo v u00.heap.size s gr gc gm cr cc cm 4 d a b f n e ∧ But [gr, gc, gm] u00 v) ⟨⟨?_, ?_, ?_, ?_, ?_, ?_⟩, ?_⟩ ?_
 ·(repeat with_reducible first | assumption | exact Box4.new _ _ _ _ _ _ _ (by first | rfl | simp | (simp; omega)) | refine Box4.alloc ?_ _ | refine Box4.drew ?_ | refine Box4.drewN ?_ _ | refine Box4.other ?_ _ _ _ (by omega))
 ·(repeat with_reducible first | assumption | exact Box.new6 _ _ _ _ _ _ _ _ _ (by first | rfl | simp | (simp; omega)) | refine Box.alloc ?_ _ | refine Box.drew ?_ | refine Box.drewN ?_ _ | refine Box.other ?_ _ _ _ (by omega))
 ·(repeat with_reducible first | assumption | exact Box7.new _ _ _ _ (by first | rfl | simp | (simp; omega)) | exact Box7.newv _ _ _ _ _ _ _ _ _ _ (by first | rfl | simp | (simp; omega)) | refine Box7.alloc ?_ _ | refine Box7.drew ?_ | refine Box7.drewN ?_ _ | refine Box7.other ?_ _ _ _ (by omega))
 ·(repeat with_reducible first | assumption | exact Box4.new _ _ _ _ _ _ _ (by first | rfl | simp | (simp; omega)) | refine Box4.alloc ?_ _ | refine Box4.drew ?_ | refine Box4.drewN ?_ _ | refine Box4.other ?_ _ _ _ (by omega))
 ·(repeat with_reducible first | assumption | exact Box7.new _ _ _ _ (by first | rfl | simp | (simp; omega)) | exact Box7.newv _ _ _ _ _ _ _ _ _ _ (by first | rfl | simp | (simp; omega)) | refine Box7.alloc ?_ _ | refine Box7.drew ?_ | refine Box7.drewN ?_ _ | refine Box7.other ?_ _ _ _ (by omega))
 ·(repeat with_reducible first | refine Own.alloc ?_ _ | refine Own.drew ?_ | refine Own.drewN ?_ _ | refine Own.other ?_ _ _ _ (by omega) (by omega) (by omega))
  exact HO0.out
 ·(repeat with_reducible first | exact But.refl _ _ | assumption | refine But.alloc ?_ _ | refine But.drew ?_ | refine But.drewN ?_ _ | refine But.set ?_ _ _ _ (by first | (left; simp; done) | (right; simp; done) | (right; omega) | (right; simp; omega)))
 simp only [Nat.add_assoc, Nat.reduceAdd]
 rintro v ⟨lo, hB⟩
 have HLo := Lib.hid lo
 have HBt := Lib.hid hB
 have hsz := hB.size
 have ca := lo.O.R.cel a.toNat HRl.out
 have cb := lo.O.R.cel b.toNat HRb.out
 rw [HX.out] at ca
 rw [HYY.out] at cb
 obtain ⟨⟨g1, s0, s1, s2, s3, S0, S1, S2, S3⟩, ⟨i0, i1, i2, i3, i4, i5⟩, ⟨g5, e0, e1, e2, e3, e4, e5, e6, E0, E1, E2, E3, E4, E5, E6⟩, g6, g7, g8⟩ := lo
 clear hB g1 g5 g6 g7 g8
 go_quiet ((go_at_call 110; refine quiet_mine (spec_l1Wrap _ _)))
 refine wp_seq_gen (fun v => Lo v u00.heap.size s gr gc gm cr cc cm 4 d a b f n e ∧ But [gr, gc, gm] u00 v) ⟨?_, ?_⟩ ?_
 ·obtain ⟨q1, q2, q3, q4, q5, q6⟩ := HLo.out
  exact ⟨q1.drewN _, q2.drewN _, q3.drewN _, q4.drewN _, q5.drewN _, q6.drewN _⟩
 ·exact HBt.out.drewN _
 clear s0 s1 s2 s3 S0 S1 S2 S3 i0 i1 i2 i3 i4 i5 e0 e1 e2 e3 e4 e5 e6 E0 E1 E2 E3 E4 E5 E6 ca cb hsz
 clear HLo HBt
 clear v
 rintro v1 ⟨lo, hB⟩
 have HLo := Lib.hid lo
 have HBt := Lib.hid hB
 have hsz := hB.size
 have ca := lo.O.R.cel a.toNat HRl.out
 have cb := lo.O.R.cel b.toNat HRb.out
 rw [HX.out] at ca
 rw [HYY.out] at cb
 have cq := lo.O.M.cel q.toNat (by rw [HMl.out]; omega)
 have fq := lo.O.M.fro q.toNat (by rw [HMl.out]; omega)
 rw [HM.out] at cq
 obtain ⟨⟨g1, s0, s1, s2, s3, S0, S1, S2, S3⟩, ⟨i0, i1, i2, i3, i4, i5⟩, ⟨g5, e0, e1, e2, e3, e4, e5, e6, E0, E1, E2, E3, E4, E5, E6⟩, g6, g7, g8⟩ := lo
 clear hB g1 g5 g6 g7 g8
 go_wp2_with fail
 refine (EP.out v1 HLo.out.O).mono ?_
 rintro e' w' ⟨rfl, rfl⟩
 go_wp2_with fail
 refine wp_gen (fun v => Lo v u00.heap.size s gr gc gm cr cc cm 4 d a b f n { e with ad := q, dt := y } ∧ But [gr, gc, gm] u00 v) ⟨⟨?_, ?_, ?_, ?_, ?_, ?_⟩, ?_⟩ ?_
 ·have q1 := HLo.out.S
  (repeat with_reducible first | assumption | exact Box4.new _ _ _ _ _ _ _ (by first | rfl | simp | (simp; omega)) | refine Box4.alloc ?_ _ | refine Box4.drew ?_ | refine Box4.drewN ?_ _ | refine Box4.other ?_ _ _ _ (by omega))
 ·have q1 := HLo.out.C
  (repeat with_reducible first | assumption | exact Box.new6 _ _ _ _ _ _ _ _ _ (by first | rfl | simp | (simp; omega)) | refine Box.alloc ?_ _ | refine Box.drew ?_ | refine Box.drewN ?_ _ | refine Box.other ?_ _ _ _ (by omega))
 ·have q1 := HLo.out.E
  exact (q1.set5 q).set6 y
 ·have q1 := HLo.out.Z
  (repeat with_reducible first | assumption | exact Box4.new _ _ _ _ _ _ _ (by first | rfl | simp | (simp; omega)) | refine Box4.alloc ?_ _ | refine Box4.drew ?_ | refine Box4.drewN ?_ _ | refine Box4.other ?_ _ _ _ (by omega))
 ·have q1 := HLo.out.Y
  (repeat with_reducible first | assumption | exact Box7.new _ _ _ _ (by first | rfl | simp | (simp; omega)) | exact Box7.newv _ _ _ _ _ _ _ _ _ _ (by first | rfl | simp | (simp; omega)) | refine Box7.alloc ?_ _ | refine Box7.drew ?_ | refine Box7.drewN ?_ _ | refine Box7.other ?_ _ _ _ (by omega))
 ·have q1 := HLo.out.O
  (repeat with_reducible first | refine Own.alloc ?_ _ | refine Own.drew ?_ | refine Own.drewN ?_ _ | refine Own.other ?_ _ _ _ (by omega) (by omega) (by omega))
  exact q1
 ·have hB := HBt.out
  (repeat with_reducible first | exact But.refl _ _ | assumption | refine But.alloc ?_ _ | refine But.drew ?_ | refine But.drewN ?_ _ | refine But.set ?_ _ _ _ (by first | (left; simp; done) | (right; simp; done) | (right; omega) | (right; simp; omega)))
 clear s0 s1 s2 s3 S0 S1 S2 S3 i0 i1 i2 i3 i4 i5 e0 e1 e2 e3 e4 e5 e6 E0 E1 E2 E3 E4 E5 E6 ca cb cq fq hsz
 clear HLo HBt
 clear v1
 rintro v2 ⟨lo, hB⟩
 have HLo := Lib.hid lo
 have HBt := Lib.hid hB
 have hsz := hB.size
 have ca := lo.O.R.cel a.toNat HRl.out
 have cb := lo.O.R.cel b.toNat HRb.out
 rw [HX.out] at ca
 rw [HYY.out] at cb
 have cq := lo.O.M.cel q.toNat (by rw [HMl.out]; omega)
 have fq := lo.O.M.fro q.toNat (by rw [HMl.out]; omega)
 rw [HM.out] at cq
 obtain ⟨⟨g1, s0, s1, s2, s3, S0, S1, S2, S3⟩, ⟨i0, i1, i2, i3, i4, i5⟩, ⟨g5, e0, e1, e2, e3, e4, e5, e6, E0, E1, E2, E3, E4, E5, E6⟩, g6, g7, g8⟩ := lo
 clear hB g1 g5 g6 g7 g8
 go_still_tail 9, (by kernel_rfl)
 change wpList _ _ _ _ _ v2.drew
 refine wpList_gen (fun v => Lo v u00.heap.size s gr gc gm cr cc cm 4 d a b f n { e with ad := q, dt := y } ∧ But [gr, gc, gm] u00 v) ⟨?_, ?_⟩ ?_
 ·obtain ⟨q1, q2, q3, q4, q5, q6⟩ := HLo.out
  exact ⟨q1.drew, q2.drew, q3.drew, q4.drew, q5.drew, q6.drew⟩
 ·exact HBt.out.drew
 clear s0 s1 s2 s3 S0 S1 S2 S3 i0 i1 i2 i3 i4 i5 e0 e1 e2 e3 e4 e5 e6 E0 E1 E2 E3 E4 E5 E6 ca cb cq fq hsz
 clear HLo HBt
 clear v2
 rintro v3 ⟨lo, hB⟩
 have HLo := Lib.hid lo
 have HBt := Lib.hid hB
 have hsz := hB.size
 have ca := lo.O.R.cel a.toNat HRl.out
 have cb := lo.O.R.cel b.toNat HRb.out
 rw [HX.out] at ca
 rw [HYY.out] at cb
 have cq := lo.O.M.cel q.toNat (by rw [HMl.out]; omega)
 have fq := lo.O.M.fro q.toNat (by rw [HMl.out]; omega)
 rw [HM.out] at cq
 obtain ⟨⟨g1, s0, s1, s2, s3, S0, S1, S2, S3⟩, ⟨i0, i1, i2, i3, i4, i5⟩, ⟨g5, e0, e1, e2, e3, e4, e5, e6, E0, E1, E2, E3, E4, E5, E6⟩, g6, g7, g8⟩ := lo
 clear hB g1 g5 g6 g7 g8
 have z1 : ¬ gm = u00.heap.size := by omega
 have z2 : ¬ u00.heap.size = gm := by omega
 have z3 : ¬ gm = u00.heap.size + 1 := by omega
 have z4 : ¬ u00.heap.size + 1 = gm := by omega
 have z5 : ¬ gm = u00.heap.size + 2 := by omega
 have z6 : ¬ u00.heap.size + 2 = gm := by omega
 go_wp2_with (go_at_call 110; refine (spec_l1Wrap _ _).mono ?_; rintro e' w' ⟨rfl, rfl⟩)
 refine wp_gen (fun v => Lo v u00.heap.size (⟨nx s, s.R, s.C, s.M.set q.toNat y⟩ : St) gr gc gm cr cc cm 4 d a b f n { e with ad := q, dt := y } ∧ But [gr, gc, gm] u00 v) ⟨⟨?_, ?_, ?_, ?_, ?_, ?_⟩, ?_⟩ ?_
 ·have q1 := HLo.out.S
  have q2 := q1.other gm q.toNat (.int .i64 y) (by omega)
  exact q2.set0 _
 ·have q1 := HLo.out.C
  (repeat with_reducible first | assumption | exact Box.new6 _ _ _ _ _ _ _ _ _ (by first | rfl | simp | (simp; omega)) | refine Box.alloc ?_ _ | refine Box.drew ?_ | refine Box.drewN ?_ _ | refine Box.other ?_ _ _ _ (by omega))
 ·have q1 := HLo.out.E
  (repeat with_reducible first | assumption | exact Box7.new _ _ _ _ (by first | rfl | simp | (simp; omega)) | exact Box7.newv _ _ _ _ _ _ _ _ _ _ (by first | rfl | simp | (simp; omega)) | refine Box7.alloc ?_ _ | refine Box7.drew ?_ | refine Box7.drewN ?_ _ | refine Box7.other ?_ _ _ _ (by omega))
 ·have q1 := HLo.out.Z
  (repeat with_reducible first | assumption | exact Box4.new _ _ _ _ _ _ _ (by first | rfl | simp | (simp; omega)) | refine Box4.alloc ?_ _ | refine Box4.drew ?_ | refine Box4.drewN ?_ _ | refine Box4.other ?_ _ _ _ (by omega))
 ·have q1 := HLo.out.Y
  (repeat with_reducible first | assumption | exact Box7.new _ _ _ _ (by first | rfl | simp | (simp; omega)) | exact Box7.newv _ _ _ _ _ _ _ _ _ _ (by first | rfl | simp | (simp; omega)) | refine Box7.alloc ?_ _ | refine Box7.drew ?_ | refine Box7.drewN ?_ _ | refine Box7.other ?_ _ _ _ (by omega))
 ·have q1 := HLo.out.O
  (repeat with_reducible first | refine Own.alloc ?_ _ | refine Own.drew ?_ | refine Own.drewN ?_ _ | refine Own.other ?_ _ _ _ (by omega) (by omega) (by omega))
  exact q1.setM q.toNat y (by rw [HMl.out]; omega) (nx s)
 ·have hB := HBt.out
  (repeat with_reducible first | exact But.refl _ _ | assumption | refine But.alloc ?_ _ | refine But.drew ?_ | refine But.drewN ?_ _ | refine But.set ?_ _ _ _ (by first | (left; simp; done) | (right; simp; done) | (right; omega) | (right; simp; omega)))
 clear s0 s1 s2 s3 S0 S1 S2 S3 i0 i1 i2 i3 i4 i5 e0 e1 e2 e3 e4 e5 e6 E0 E1 E2 E3 E4 E5 E6 ca cb cq fq hsz
 clear HLo HBt z1 z2 z3 z4 z5 z6
 clear v3
 rintro v0 ⟨lo, hB⟩
 have HLo := Lib.hid lo
 have HBt := Lib.hid hB
 have hsz := hB.size
 obtain ⟨⟨g1, s0, s1, s2, s3, S0, S1, S2, S3⟩, ⟨i0, i1, i2, i3, i4, i5⟩, ⟨g5, e0, e1, e2, e3, e4, e5, e6, E0, E1, E2, E3, E4, E5, E6⟩, g6, g7, g8⟩ := lo
 clear hB g1 g5 g6 g7 g8
 have HS := Lib.hid HLo.out.S
 have HE := Lib.hid HLo.out.E
 have HZ := Lib.hid HLo.out.Z
 have HY := Lib.hid HLo.out.Y
 have HO := Lib.hid HLo.out.O
 clear s0 s1 s2 s3 S0 S1 S2 S3 i0 i1 i2 i3 i4 i5 e0 e1 e2 e3 e4 e5 e6 E0 E1 E2 E3 E4 E5 E6 hsz
 clear HLo
 refine wp_region_rows 91 3 [u00.heap.size + 3] (fun i => if i = 2 then [u00.heap.size + 3] else []) lb1_in (fun i => false) (fun i v u => match i with | 0 => v = .agg #[.int .i64 (nx s), .slice (some ⟨gr, 0, none⟩) 8 cr, .slice (some ⟨gc, 0, none⟩) 5 cc, .slice (some ⟨gm, 0, none⟩) 256 cm] | 1 => v = .agg #[.int .i64 ({ e with ad := q, dt := y }).pc, .int .i64 ({ e with ad := q, dt := y }).w, .int .i64 ({ e with ad := q, dt := y }).why, .int .i64 ({ e with ad := q, dt := y }).d, .int .i64 ({ e with ad := q, dt := y }).v, .int .i64 ({ e with ad := q, dt := y }).ad, .int .i64 ({ e with ad := q, dt := y }).dt] | 2 => v = undef ∧ Box4 u (u00.heap.size + 3) (.int .i64 (nx s)) (.slice (some ⟨gr, 0, none⟩) 8 cr) (.slice (some ⟨gc, 0, none⟩) 5 cc) (.slice (some ⟨gm, 0, none⟩) 256 cm) | _ => True) ?mono (by kernel_rfl) (by kernel_rfl) rfl (by kernel_rfl) (by kernel_rfl) (by decide) ?step ?fin
 case mono =>
  intro i j v u u' hi hij hdj hsz h hB
  rcases j with _ | _ | _ | j
  ·exact h
  ·exact h
  ·refine ⟨h.1, ?_⟩
   have hB' : But [] u u' := hB.mono (fun k hk _ => lb1_out i hij k hk)
   exact h.2.but hB' (by simp)
  ·trivial
 case step =>
  intro i o ho hiz
  rcases i with _ | _ | _ | _ | i
  ·clear hiz
   cases ho
   intro act u hB hL hdep hap hnw
   replace hB := hB [u00.heap.size + 3] (fun j _ k hk => lb1_in j k hk)
   have x3 := out_val hL (k := 3) (by kernel_rfl) rfl rfl
   clear hdep hL hap hnw
   have Bx := HS.out.but hB (by simp; try omega)
   obtain ⟨lt, c0, c1, c2, c3, _, _, _, _⟩ := Bx
   refine wpOp_step rfl (fun K hK => ?_)
   go_simp
   exact hK _ _ ⟨_, rfl, (fun h => by cases h), rfl, But.refl _ _, (fun h => by cases h)⟩
  ·clear hiz
   cases ho
   intro act u hB hL hdep hap hnw
   replace hB := hB [u00.heap.size + 3] (fun j _ k hk => lb1_in j k hk)
   have x5 := out_val hL (k := 5) (by kernel_rfl) rfl rfl
   clear hdep hL hap hnw
   have Bx := HE.out.but hB (by simp; try omega)
   obtain ⟨lt, c0, c1, c2, c3, c4, c5, c6, _, _, _, _, _, _, _⟩ := Bx
   refine wpOp_step rfl (fun K hK => ?_)
   go_simp
   exact hK _ _ ⟨_, rfl, (fun h => by cases h), rfl, But.refl _ _, (fun h => by cases h)⟩
  ·clear hiz
   cases ho
   intro act u hB hL hdep hap hnw
   replace hB := hB [] lb1_out
   have e0 : act.tmps.getD 89 undef = _ := hdep { on := 0, ground := .data } (by simp) rfl _ rfl
   have x6 := out_val hL (k := 6) (by kernel_rfl) rfl rfl
   clear hdep hL hap hnw
   have Bz0 := HZ.out.but hB (by simp; try omega)
   have Bz1 := Bz0
   obtain ⟨lt, c0, c1, c2, c3, f0, f1, f2, f3⟩ := Bz1
   refine wpOp_step rfl (fun K hK => ?_)
   go_simp
   exact hK _ _ ⟨undef, rfl, (fun _ => rfl), ⟨rfl, Bz0.set (.int .i64 (nx s)) (.slice (some ⟨gr, 0, none⟩) 8 cr) (.slice (some ⟨gc, 0, none⟩) 5 cc) (.slice (some ⟨gm, 0, none⟩) 256 cm)⟩, (But.refl _ _).set4 (u00.heap.size + 3) _ _ _ _ (.inl (by simp)), (fun h => by cases h)⟩
  ·exact absurd rfl hiz
  ·exact absurd ho (by simp)
 case fin =>
  intro act u hB hL hsf hap hnw
  have d1 := hsf 1 _ rfl (by decide)
  have d2 := hsf 2 _ rfl (by decide)
  obtain ⟨ysl, ha, hy⟩ := hL.puts [89, 90] (by kernel_rfl)
  have e1 : ysl 90 = _ := (hy 90).symm.trans d1
  obtain ⟨h2, Bz⟩ := d2
  clear hL hsf hy hap hnw d1
  simp only [List.foldl, List.setIfInBounds_toArray, List.set_cons_succ, List.set_cons_zero, e1] at ha
  subst ha
  clear e1
  have ow1 : Own u gr gc gm (⟨nx s, s.R, s.C, s.M.set q.toNat y⟩ : St) := HO.out.but hB (by simp; omega) (by simp; omega) (by simp; omega)
  have Bz1 := Bz
  obtain ⟨_, z0, z1, z2, z3, _, _, _, _⟩ := Bz1
  have By := HY.out.but hB (by simp; try omega)
  have By1 := By
  obtain ⟨yl, y0, y1, y2, y3, y4, y5, y6, x0, x1, x2, x3, x4, x5, x6⟩ := By1
  have hB2 : But [gr, gc, gm] u00 u := HBt.out.trans2 hB (fun k hk => by simp at hk ⊢; omega)
  refine wpOp_step rfl (fun K hK => ?_)
  go_simp
  refine hK _ _ ?_
  refine wp_seq_gen (fun t => Own t gr gc gm (⟨nx s, s.R, s.C, s.M.set q.toNat y⟩ : St) ∧ Box4 t (u00.heap.size + 3) (.int .i64 (nx s)) (.slice (some ⟨gr, 0, none⟩) 8 cr) (.slice (some ⟨gc, 0, none⟩) 5 cc) (.slice (some ⟨gm, 0, none⟩) 256 cm) ∧ Box7 t (u00.heap.size + 4) ({ e with ad := q, dt := y }) ∧ But [gr, gc, gm] u00 t) ⟨?_, ?_, ?_, ?_⟩ ?_
  ·(repeat with_reducible first | refine Own.alloc ?_ _ | refine Own.drew ?_ | refine Own.drewN ?_ _ | refine Own.other ?_ _ _ _ (by omega) (by omega) (by omega))
   exact ow1
  ·(repeat with_reducible first | assumption | exact Box4.new _ _ _ _ _ _ _ (by first | rfl | simp | (simp; omega)) | refine Box4.alloc ?_ _ | refine Box4.drew ?_ | refine Box4.drewN ?_ _ | refine Box4.other ?_ _ _ _ (by omega))
  ·exact ((((((By.set0 _).set1 _).set2 _).set3 _).set4 _).set5 _).set6 _
  ·(repeat with_reducible first | exact But.refl _ _ | assumption | refine But.alloc ?_ _ | refine But.drew ?_ | refine But.drewN ?_ _ | refine But.set ?_ _ _ _ (by first | (left; simp; done) | (right; simp; done) | (right; omega) | (right; simp; omega)))
  clear z0 z1 z2 z3 y0 y1 y2 y3 y4 y5 y6 x0 x1 x2 x3 x4 x5 x6 By Bz ow1 hB2 hB yl
  rintro t ⟨ow2, bz, by', hB2⟩
  obtain ⟨_, z0, z1, z2, z3, _, _, _, _⟩ := bz
  obtain ⟨_, y0, y1, y2, y3, y4, y5, y6, _, _, _, _, _, _, _⟩ := by'
  go_wp2
  refine bodyPost_ret (v := .tuple #[.agg #[.int .i64 (nx s), .slice (some ⟨gr, 0, none⟩) 8 cr, .slice (some ⟨gc, 0, none⟩) 5 cc, .slice (some ⟨gm, 0, none⟩) 256 cm], .agg #[.int .i64 ({ e with ad := q, dt := y }).pc, .int .i64 ({ e with ad := q, dt := y }).w, .int .i64 ({ e with ad := q, dt := y }).why, .int .i64 ({ e with ad := q, dt := y }).d, .int .i64 ({ e with ad := q, dt := y }).v, .int .i64 ({ e with ad := q, dt := y }).ad, .int .i64 ({ e with ad := q, dt := y }).dt]]) (by simp [results, Tryd.results86, go_sem, z0, z1, z2, z3, y0, y1, y2, y3, y4, y5, y6]) rfl ?_
  exact ⟨rfl, ow2, hB2⟩
set_option maxRecDepth 8000 in
set_option maxHeartbeats 4000000 in
theorem spec_Mem_10 (s : St) (e : Ev) (gr gc gm cr cc cm : Nat) (d a b f n : Int) (u00 : World) (ho : Own u00 gr gc gm s) (hk : OkS s) (hi : iok 10 d a b f n = true) (hs : 0 ≤ see s.C s.M ((rg s a + n) % 65536) true) :
  Calls Tryd.prog 86 #[.agg #[.int .i64 s.pc, .slice (some ⟨gr, 0, none⟩) 8 cr, .slice (some ⟨gc, 0, none⟩) 5 cc, .slice (some ⟨gm, 0, none⟩) 256 cm], .agg #[.int .i64 10, .int .i64 d, .int .i64 a, .int .i64 b, .int .i64 f, .int .i64 n], .agg #[.int .i64 (e).pc, .int .i64 (e).w, .int .i64 (e).why, .int .i64 (e).d, .int .i64 (e).v, .int .i64 (e).ad, .int .i64 (e).dt]] u00 (MP ⟨nx s, putR s.R d (mm s (see s.C s.M ((rg s a + n) % 65536) true)), s.C, s.M.set (see s.C s.M ((rg s a + n) % 65536) true).toNat (rg s b)⟩ { e with ad := see s.C s.M ((rg s a + n) % 65536) true, dt := rg s b, d := d, v := mm s (see s.C s.M ((rg s a + n) % 65536) true) } gr gc gm cr cc cm u00) := by
 obtain ⟨⟨d0, d1⟩, ⟨a0, a1⟩, ⟨b0, b1⟩, ⟨f0, f1⟩, n0, n1⟩ := sok_bd (sok_of hi)
 have lr := ho.R.lt
 have lc := ho.C.lt
 have lm := ho.M.lt
 have HK := Lib.hid hk
 have HO0 := Lib.hid ho
 have HCl := Lib.hid hk.Cl
 have HC3 := Lib.hid (And.intro (ok_get hk.C 3).1 hk.c3)
 have ra := ok_get hk.R a.toNat
 have ca := ho.R.cel a.toNat (by have := hk.Rl; omega)
 have cb := ho.R.cel b.toNat (by have := hk.Rl; omega)
 have pb := okB_true hk.pc
 have a8 : a < 8 := by omega
 have b8 : b < 8 := by omega
 have hab : 0 ≤ (rg s a + n) % 65536 ∧ (rg s a + n) % 65536 < 65536 := by omega
 have EP := Lib.hid (fun (v : World) (ov : Own v gr gc gm s) => spec_l4Page s.C s.M (some ⟨gc, 0, none⟩) (some ⟨gm, 0, none⟩) cc cm ((rg s a + n) % 65536) true v ov.C.src ov.M.src hk.Cl hk.Ml hk.C hk.M hab.1 hab.2)
 rw [hk.Cl, hk.Ml] at EP
 have HQ := see_bd s.C s.M ((rg s a + n) % 65536) true hab.1
 have HRl := Lib.hid (show a.toNat < s.R.length by have := hk.Rl; omega)
 have HRb := Lib.hid (show b.toNat < s.R.length by have := hk.Rl; omega)
 have HMl := Lib.hid hk.Ml
 have HRL := Lib.hid hk.Rl
 have hra : 0 ≤ rg s a ∧ rg s a < 65536 := okB_true (rg_ok hk a)
 generalize hq : see s.C s.M ((rg s a + n) % 65536) true = q at *
 clear hq
 obtain ⟨x, hx⟩ : ∃ x, x = rg s a := ⟨_, rfl⟩
 obtain ⟨y, hy⟩ : ∃ y, y = rg s b := ⟨_, rfl⟩
 obtain ⟨m, hm⟩ : ∃ m, m = mm s q := ⟨_, rfl⟩
 have HX := Lib.hid (show s.R.getD a.toNat 0 = x from hx.symm)
 have HYY := Lib.hid (show s.R.getD b.toNat 0 = y from hy.symm)
 have HM := Lib.hid (show s.M.getD q.toNat 0 = m from hm.symm)
 rw [← hx] at EP hra hab
 rw [← hy]
 rw [← hm]
 clear hx hy hm ca cb ra ho hi hk
 go_enter Tryd.func86, Tryd.ntmps86
 go_wp2_with fail
 refine wp_gen (fun v => Lo v u00.heap.size s gr gc gm cr cc cm 10 d a b f n e ∧ But [gr, gc, gm] u00 v) ⟨⟨?_, ?_, ?_, ?_, ?_, ?_⟩, ?_⟩ ?_
 ·(repeat with_reducible first | assumption | exact Box4.new _ _ _ _ _ _ _ (by first | rfl | simp | (simp; omega)) | refine Box4.alloc ?_ _ | refine Box4.drew ?_ | refine Box4.drewN ?_ _ | refine Box4.other ?_ _ _ _ (by omega))
 ·(repeat with_reducible first | assumption | exact Box.new6 _ _ _ _ _ _ _ _ _ (by first | rfl | simp | (simp; omega)) | refine Box.alloc ?_ _ | refine Box.drew ?_ | refine Box.drewN ?_ _ | refine Box.other ?_ _ _ _ (by omega))
 ·(repeat with_reducible first | assumption | exact Box7.new _ _ _ _ (by first | rfl | simp | (simp; omega)) | exact Box7.newv _ _ _ _ _ _ _ _ _ _ (by first | rfl | simp | (simp; omega)) | refine Box7.alloc ?_ _ | refine Box7.drew ?_ | refine Box7.drewN ?_ _ | refine Box7.other ?_ _ _ _ (by omega))
 ·(repeat with_reducible first | assumption | exact Box4.new _ _ _ _ _ _ _ (by first | rfl | simp | (simp; omega)) | refine Box4.alloc ?_ _ | refine Box4.drew ?_ | refine Box4.drewN ?_ _ | refine Box4.other ?_ _ _ _ (by omega))
 ·(repeat with_reducible first | assumption | exact Box7.new _ _ _ _ (by first | rfl | simp | (simp; omega)) | exact Box7.newv _ _ _ _ _ _ _ _ _ _ (by first | rfl | simp | (simp; omega)) | refine Box7.alloc ?_ _ | refine Box7.drew ?_ | refine Box7.drewN ?_ _ | refine Box7.other ?_ _ _ _ (by omega))
 ·(repeat with_reducible first | refine Own.alloc ?_ _ | refine Own.drew ?_ | refine Own.drewN ?_ _ | refine Own.other ?_ _ _ _ (by omega) (by omega) (by omega))
  exact HO0.out
 ·(repeat with_reducible first | exact But.refl _ _ | assumption | refine But.alloc ?_ _ | refine But.drew ?_ | refine But.drewN ?_ _ | refine But.set ?_ _ _ _ (by first | (left; simp; done) | (right; simp; done) | (right; omega) | (right; simp; omega)))
 simp only [Nat.add_assoc, Nat.reduceAdd]
 rintro v ⟨lo, hB⟩
 have HLo := Lib.hid lo
 have HBt := Lib.hid hB
 have hsz := hB.size
 have ca := lo.O.R.cel a.toNat HRl.out
 have cb := lo.O.R.cel b.toNat HRb.out
 rw [HX.out] at ca
 rw [HYY.out] at cb
 obtain ⟨⟨g1, s0, s1, s2, s3, S0, S1, S2, S3⟩, ⟨i0, i1, i2, i3, i4, i5⟩, ⟨g5, e0, e1, e2, e3, e4, e5, e6, E0, E1, E2, E3, E4, E5, E6⟩, g6, g7, g8⟩ := lo
 clear hB g1 g5 g6 g7 g8
 go_quiet ((go_at_call 110; refine quiet_mine (spec_l1Wrap _ _)))
 refine wp_seq_gen (fun v => Lo v u00.heap.size s gr gc gm cr cc cm 10 d a b f n e ∧ But [gr, gc, gm] u00 v) ⟨?_, ?_⟩ ?_
 ·obtain ⟨q1, q2, q3, q4, q5, q6⟩ := HLo.out
  exact ⟨q1.drewN _, q2.drewN _, q3.drewN _, q4.drewN _, q5.drewN _, q6.drewN _⟩
 ·exact HBt.out.drewN _
 clear s0 s1 s2 s3 S0 S1 S2 S3 i0 i1 i2 i3 i4 i5 e0 e1 e2 e3 e4 e5 e6 E0 E1 E2 E3 E4 E5 E6 ca cb hsz
 clear HLo HBt
 clear v
 rintro v1 ⟨lo, hB⟩
 have HLo := Lib.hid lo
 have HBt := Lib.hid hB
 have hsz := hB.size
 have ca := lo.O.R.cel a.toNat HRl.out
 have cb := lo.O.R.cel b.toNat HRb.out
 rw [HX.out] at ca
 rw [HYY.out] at cb
 have cq := lo.O.M.cel q.toNat (by rw [HMl.out]; omega)
 have fq := lo.O.M.fro q.toNat (by rw [HMl.out]; omega)
 rw [HM.out] at cq
 obtain ⟨⟨g1, s0, s1, s2, s3, S0, S1, S2, S3⟩, ⟨i0, i1, i2, i3, i4, i5⟩, ⟨g5, e0, e1, e2, e3, e4, e5, e6, E0, E1, E2, E3, E4, E5, E6⟩, g6, g7, g8⟩ := lo
 clear hB g1 g5 g6 g7 g8
 go_wp2_with fail
 refine (EP.out v1 HLo.out.O).mono ?_
 rintro e' w' ⟨rfl, rfl⟩
 go_wp2_with fail
 refine wp_gen (fun v => Lo v u00.heap.size s gr gc gm cr cc cm 10 d a b f n { e with ad := q, dt := y } ∧ But [gr, gc, gm] u00 v) ⟨⟨?_, ?_, ?_, ?_, ?_, ?_⟩, ?_⟩ ?_
 ·have q1 := HLo.out.S
  (repeat with_reducible first | assumption | exact Box4.new _ _ _ _ _ _ _ (by first | rfl | simp | (simp; omega)) | refine Box4.alloc ?_ _ | refine Box4.drew ?_ | refine Box4.drewN ?_ _ | refine Box4.other ?_ _ _ _ (by omega))
 ·have q1 := HLo.out.C
  (repeat with_reducible first | assumption | exact Box.new6 _ _ _ _ _ _ _ _ _ (by first | rfl | simp | (simp; omega)) | refine Box.alloc ?_ _ | refine Box.drew ?_ | refine Box.drewN ?_ _ | refine Box.other ?_ _ _ _ (by omega))
 ·have q1 := HLo.out.E
  exact (q1.set5 q).set6 y
 ·have q1 := HLo.out.Z
  (repeat with_reducible first | assumption | exact Box4.new _ _ _ _ _ _ _ (by first | rfl | simp | (simp; omega)) | refine Box4.alloc ?_ _ | refine Box4.drew ?_ | refine Box4.drewN ?_ _ | refine Box4.other ?_ _ _ _ (by omega))
 ·have q1 := HLo.out.Y
  (repeat with_reducible first | assumption | exact Box7.new _ _ _ _ (by first | rfl | simp | (simp; omega)) | exact Box7.newv _ _ _ _ _ _ _ _ _ _ (by first | rfl | simp | (simp; omega)) | refine Box7.alloc ?_ _ | refine Box7.drew ?_ | refine Box7.drewN ?_ _ | refine Box7.other ?_ _ _ _ (by omega))
 ·have q1 := HLo.out.O
  (repeat with_reducible first | refine Own.alloc ?_ _ | refine Own.drew ?_ | refine Own.drewN ?_ _ | refine Own.other ?_ _ _ _ (by omega) (by omega) (by omega))
  exact q1
 ·have hB := HBt.out
  (repeat with_reducible first | exact But.refl _ _ | assumption | refine But.alloc ?_ _ | refine But.drew ?_ | refine But.drewN ?_ _ | refine But.set ?_ _ _ _ (by first | (left; simp; done) | (right; simp; done) | (right; omega) | (right; simp; omega)))
 clear s0 s1 s2 s3 S0 S1 S2 S3 i0 i1 i2 i3 i4 i5 e0 e1 e2 e3 e4 e5 e6 E0 E1 E2 E3 E4 E5 E6 ca cb cq fq hsz
 clear HLo HBt
 clear v1
 rintro v2 ⟨lo, hB⟩
 have HLo := Lib.hid lo
 have HBt := Lib.hid hB
 have hsz := hB.size
 have ca := lo.O.R.cel a.toNat HRl.out
 have cb := lo.O.R.cel b.toNat HRb.out
 rw [HX.out] at ca
 rw [HYY.out] at cb
 have cq := lo.O.M.cel q.toNat (by rw [HMl.out]; omega)
 have fq := lo.O.M.fro q.toNat (by rw [HMl.out]; omega)
 rw [HM.out] at cq
 obtain ⟨⟨g1, s0, s1, s2, s3, S0, S1, S2, S3⟩, ⟨i0, i1, i2, i3, i4, i5⟩, ⟨g5, e0, e1, e2, e3, e4, e5, e6, E0, E1, E2, E3, E4, E5, E6⟩, g6, g7, g8⟩ := lo
 clear hB g1 g5 g6 g7 g8
 go_still_tail 9, (by kernel_rfl)
 change wpList _ _ _ _ _ v2.drew
 refine wpList_gen (fun v => Lo v u00.heap.size s gr gc gm cr cc cm 10 d a b f n { e with ad := q, dt := y } ∧ But [gr, gc, gm] u00 v) ⟨?_, ?_⟩ ?_
 ·obtain ⟨q1, q2, q3, q4, q5, q6⟩ := HLo.out
  exact ⟨q1.drew, q2.drew, q3.drew, q4.drew, q5.drew, q6.drew⟩
 ·exact HBt.out.drew
 clear s0 s1 s2 s3 S0 S1 S2 S3 i0 i1 i2 i3 i4 i5 e0 e1 e2 e3 e4 e5 e6 E0 E1 E2 E3 E4 E5 E6 ca cb cq fq hsz
 clear HLo HBt
 clear v2
 rintro v3 ⟨lo, hB⟩
 have HLo := Lib.hid lo
 have HBt := Lib.hid hB
 have hsz := hB.size
 have ca := lo.O.R.cel a.toNat HRl.out
 have cb := lo.O.R.cel b.toNat HRb.out
 rw [HX.out] at ca
 rw [HYY.out] at cb
 have cq := lo.O.M.cel q.toNat (by rw [HMl.out]; omega)
 have fq := lo.O.M.fro q.toNat (by rw [HMl.out]; omega)
 rw [HM.out] at cq
 obtain ⟨⟨g1, s0, s1, s2, s3, S0, S1, S2, S3⟩, ⟨i0, i1, i2, i3, i4, i5⟩, ⟨g5, e0, e1, e2, e3, e4, e5, e6, E0, E1, E2, E3, E4, E5, E6⟩, g6, g7, g8⟩ := lo
 clear hB g1 g5 g6 g7 g8
 have z1 : ¬ gm = u00.heap.size := by omega
 have z2 : ¬ u00.heap.size = gm := by omega
 have z3 : ¬ gm = u00.heap.size + 1 := by omega
 have z4 : ¬ u00.heap.size + 1 = gm := by omega
 have z5 : ¬ gm = u00.heap.size + 2 := by omega
 have z6 : ¬ u00.heap.size + 2 = gm := by omega
 go_wp2_with fail
 refine calls_gen (fun v => Lo v u00.heap.size (⟨s.pc, s.R, s.C, s.M.set q.toNat y⟩ : St) gr gc gm cr cc cm 10 d a b f n { e with ad := q, dt := y, d := d, v := m } ∧ But [gr, gc, gm] u00 v) ⟨⟨?_, ?_, ?_, ?_, ?_, ?_⟩, ?_⟩ ?_
 ·have q1 := HLo.out.S
  (repeat with_reducible first | assumption | exact Box4.new _ _ _ _ _ _ _ (by first | rfl | simp | (simp; omega)) | refine Box4.alloc ?_ _ | refine Box4.drew ?_ | refine Box4.drewN ?_ _ | refine Box4.other ?_ _ _ _ (by omega))
 ·have q1 := HLo.out.C
  (repeat with_reducible first | assumption | exact Box.new6 _ _ _ _ _ _ _ _ _ (by first | rfl | simp | (simp; omega)) | refine Box.alloc ?_ _ | refine Box.drew ?_ | refine Box.drewN ?_ _ | refine Box.other ?_ _ _ _ (by omega))
 ·have q1 := HLo.out.E
  have q2 := q1.other gm q.toNat (.int .i64 y) (by omega)
  exact (q2.set3 d).set4 m
 ·have q1 := HLo.out.Z
  (repeat with_reducible first | assumption | exact Box4.new _ _ _ _ _ _ _ (by first | rfl | simp | (simp; omega)) | refine Box4.alloc ?_ _ | refine Box4.drew ?_ | refine Box4.drewN ?_ _ | refine Box4.other ?_ _ _ _ (by omega))
 ·have q1 := HLo.out.Y
  (repeat with_reducible first | assumption | exact Box7.new _ _ _ _ (by first | rfl | simp | (simp; omega)) | exact Box7.newv _ _ _ _ _ _ _ _ _ _ (by first | rfl | simp | (simp; omega)) | refine Box7.alloc ?_ _ | refine Box7.drew ?_ | refine Box7.drewN ?_ _ | refine Box7.other ?_ _ _ _ (by omega))
 ·have q1 := HLo.out.O
  (repeat with_reducible first | refine Own.alloc ?_ _ | refine Own.drew ?_ | refine Own.drewN ?_ _ | refine Own.other ?_ _ _ _ (by omega) (by omega) (by omega))
  exact q1.setM q.toNat y (by rw [HMl.out]; omega) s.pc
 ·have hB := HBt.out
  (repeat with_reducible first | exact But.refl _ _ | assumption | refine But.alloc ?_ _ | refine But.drew ?_ | refine But.drewN ?_ _ | refine But.set ?_ _ _ _ (by first | (left; simp; done) | (right; simp; done) | (right; omega) | (right; simp; omega)))
 clear s0 s1 s2 s3 S0 S1 S2 S3 i0 i1 i2 i3 i4 i5 e0 e1 e2 e3 e4 e5 e6 E0 E1 E2 E3 E4 E5 E6 ca cb cq fq hsz
 clear HLo HBt z1 z2 z3 z4 z5 z6
 clear v3
 rintro v4 ⟨lo, hB⟩
 have hsz := hB.size
 refine (spec_l4Put (⟨s.pc, s.R, s.C, s.M.set q.toNat y⟩ : St) gr gc gm cr cc cm d m v4 lo.O HRL.out d0 d1).mono ?_
 rintro e' v5 ⟨rfl, ho', hB'⟩
 refine wp_seq_gen2 (fun v => Lo v u00.heap.size (⟨s.pc, putR s.R d m, s.C, s.M.set q.toNat y⟩ : St) gr gc gm cr cc cm 10 d a b f n { e with ad := q, dt := y, d := d, v := m } ∧ But [gr, gc, gm] u00 v) ⟨⟨lo.S.but hB' (by simp; omega), lo.C.but hB' (by simp; omega), lo.E.but hB' (by simp; omega), lo.Z.but hB' (by simp; omega), lo.Y.but hB' (by simp; omega), ho'⟩, hB.trans2 hB' (fun k hk => by simp at hk; simp [hk])⟩ ?_
 clear lo hB ho' hB' hsz
 clear v4 v5
 rintro v6 ⟨lo, hB⟩
 have HLo := Lib.hid lo
 have HBt := Lib.hid hB
 have hsz := hB.size
 obtain ⟨⟨g1, s0, s1, s2, s3, S0, S1, S2, S3⟩, ⟨i0, i1, i2, i3, i4, i5⟩, ⟨g5, e0, e1, e2, e3, e4, e5, e6, E0, E1, E2, E3, E4, E5, E6⟩, g6, g7, g8⟩ := lo
 clear hB g1 g5 g6 g7 g8
 go_wp2_with (go_at_call 110; refine (spec_l1Wrap _ _).mono ?_; rintro e' w' ⟨rfl, rfl⟩)
 refine wp_gen (fun v => Lo v u00.heap.size (⟨nx s, putR s.R d m, s.C, s.M.set q.toNat y⟩ : St) gr gc gm cr cc cm 10 d a b f n { e with ad := q, dt := y, d := d, v := m } ∧ But [gr, gc, gm] u00 v) ⟨⟨?_, ?_, ?_, ?_, ?_, ?_⟩, ?_⟩ ?_
 ·have q1 := HLo.out.S
  exact (q1.set _ _ _ _).set0 _
 ·have q1 := HLo.out.C
  (repeat with_reducible first | assumption | exact Box.new6 _ _ _ _ _ _ _ _ _ (by first | rfl | simp | (simp; omega)) | refine Box.alloc ?_ _ | refine Box.drew ?_ | refine Box.drewN ?_ _ | refine Box.other ?_ _ _ _ (by omega))
 ·have q1 := HLo.out.E
  (repeat with_reducible first | assumption | exact Box7.new _ _ _ _ (by first | rfl | simp | (simp; omega)) | exact Box7.newv _ _ _ _ _ _ _ _ _ _ (by first | rfl | simp | (simp; omega)) | refine Box7.alloc ?_ _ | refine Box7.drew ?_ | refine Box7.drewN ?_ _ | refine Box7.other ?_ _ _ _ (by omega))
 ·have q1 := HLo.out.Z
  (repeat with_reducible first | assumption | exact Box4.new _ _ _ _ _ _ _ (by first | rfl | simp | (simp; omega)) | refine Box4.alloc ?_ _ | refine Box4.drew ?_ | refine Box4.drewN ?_ _ | refine Box4.other ?_ _ _ _ (by omega))
 ·have q1 := HLo.out.Y
  (repeat with_reducible first | assumption | exact Box7.new _ _ _ _ (by first | rfl | simp | (simp; omega)) | exact Box7.newv _ _ _ _ _ _ _ _ _ _ (by first | rfl | simp | (simp; omega)) | refine Box7.alloc ?_ _ | refine Box7.drew ?_ | refine Box7.drewN ?_ _ | refine Box7.other ?_ _ _ _ (by omega))
 ·have q1 := HLo.out.O
  (repeat with_reducible first | refine Own.alloc ?_ _ | refine Own.drew ?_ | refine Own.drewN ?_ _ | refine Own.other ?_ _ _ _ (by omega) (by omega) (by omega))
  exact q1.pc (nx s)
 ·have hB := HBt.out
  (repeat with_reducible first | exact But.refl _ _ | assumption | refine But.alloc ?_ _ | refine But.drew ?_ | refine But.drewN ?_ _ | refine But.set ?_ _ _ _ (by first | (left; simp; done) | (right; simp; done) | (right; omega) | (right; simp; omega)))
 clear s0 s1 s2 s3 S0 S1 S2 S3 i0 i1 i2 i3 i4 i5 e0 e1 e2 e3 e4 e5 e6 E0 E1 E2 E3 E4 E5 E6 hsz
 clear HLo HBt
 clear v6
 rintro v0 ⟨lo, hB⟩
 have HLo := Lib.hid lo
 have HBt := Lib.hid hB
 have hsz := hB.size
 obtain ⟨⟨g1, s0, s1, s2, s3, S0, S1, S2, S3⟩, ⟨i0, i1, i2, i3, i4, i5⟩, ⟨g5, e0, e1, e2, e3, e4, e5, e6, E0, E1, E2, E3, E4, E5, E6⟩, g6, g7, g8⟩ := lo
 clear hB g1 g5 g6 g7 g8
 have HS := Lib.hid HLo.out.S
 have HE := Lib.hid HLo.out.E
 have HZ := Lib.hid HLo.out.Z
 have HY := Lib.hid HLo.out.Y
 have HO := Lib.hid HLo.out.O
 clear s0 s1 s2 s3 S0 S1 S2 S3 i0 i1 i2 i3 i4 i5 e0 e1 e2 e3 e4 e5 e6 E0 E1 E2 E3 E4 E5 E6 hsz
 clear HLo
 refine wp_region_rows 91 3 [u00.heap.size + 3] (fun i => if i = 2 then [u00.heap.size + 3] else []) lb1_in (fun i => false) (fun i v u => match i with | 0 => v = .agg #[.int .i64 (nx s), .slice (some ⟨gr, 0, none⟩) 8 cr, .slice (some ⟨gc, 0, none⟩) 5 cc, .slice (some ⟨gm, 0, none⟩) 256 cm] | 1 => v = .agg #[.int .i64 ({ e with ad := q, dt := y, d := d, v := m }).pc, .int .i64 ({ e with ad := q, dt := y, d := d, v := m }).w, .int .i64 ({ e with ad := q, dt := y, d := d, v := m }).why, .int .i64 ({ e with ad := q, dt := y, d := d, v := m }).d, .int .i64 ({ e with ad := q, dt := y, d := d, v := m }).v, .int .i64 ({ e with ad := q, dt := y, d := d, v := m }).ad, .int .i64 ({ e with ad := q, dt := y, d := d, v := m }).dt] | 2 => v = undef ∧ Box4 u (u00.heap.size + 3) (.int .i64 (nx s)) (.slice (some ⟨gr, 0, none⟩) 8 cr) (.slice (some ⟨gc, 0, none⟩) 5 cc) (.slice (some ⟨gm, 0, none⟩) 256 cm) | _ => True) ?mono (by kernel_rfl) (by kernel_rfl) rfl (by kernel_rfl) (by kernel_rfl) (by decide) ?step ?fin
 case mono =>
  intro i j v u u' hi hij hdj hsz h hB
  rcases j with _ | _ | _ | j
  ·exact h
  ·exact h
  ·refine ⟨h.1, ?_⟩
   have hB' : But [] u u' := hB.mono (fun k hk _ => lb1_out i hij k hk)
   exact h.2.but hB' (by simp)
  ·trivial
 case step =>
  intro i o ho hiz
  rcases i with _ | _ | _ | _ | i
  ·clear hiz
   cases ho
   intro act u hB hL hdep hap hnw
   replace hB := hB [u00.heap.size + 3] (fun j _ k hk => lb1_in j k hk)
   have x3 := out_val hL (k := 3) (by kernel_rfl) rfl rfl
   clear hdep hL hap hnw
   have Bx := HS.out.but hB (by simp; try omega)
   obtain ⟨lt, c0, c1, c2, c3, _, _, _, _⟩ := Bx
   refine wpOp_step rfl (fun K hK => ?_)
   go_simp
   exact hK _ _ ⟨_, rfl, (fun h => by cases h), rfl, But.refl _ _, (fun h => by cases h)⟩
  ·clear hiz
   cases ho
   intro act u hB hL hdep hap hnw
   replace hB := hB [u00.heap.size + 3] (fun j _ k hk => lb1_in j k hk)
   have x5 := out_val hL (k := 5) (by kernel_rfl) rfl rfl
   clear hdep hL hap hnw
   have Bx := HE.out.but hB (by simp; try omega)
   obtain ⟨lt, c0, c1, c2, c3, c4, c5, c6, _, _, _, _, _, _, _⟩ := Bx
   refine wpOp_step rfl (fun K hK => ?_)
   go_simp
   exact hK _ _ ⟨_, rfl, (fun h => by cases h), rfl, But.refl _ _, (fun h => by cases h)⟩
  ·clear hiz
   cases ho
   intro act u hB hL hdep hap hnw
   replace hB := hB [] lb1_out
   have e0 : act.tmps.getD 89 undef = _ := hdep { on := 0, ground := .data } (by simp) rfl _ rfl
   have x6 := out_val hL (k := 6) (by kernel_rfl) rfl rfl
   clear hdep hL hap hnw
   have Bz0 := HZ.out.but hB (by simp; try omega)
   have Bz1 := Bz0
   obtain ⟨lt, c0, c1, c2, c3, f0, f1, f2, f3⟩ := Bz1
   refine wpOp_step rfl (fun K hK => ?_)
   go_simp
   exact hK _ _ ⟨undef, rfl, (fun _ => rfl), ⟨rfl, Bz0.set (.int .i64 (nx s)) (.slice (some ⟨gr, 0, none⟩) 8 cr) (.slice (some ⟨gc, 0, none⟩) 5 cc) (.slice (some ⟨gm, 0, none⟩) 256 cm)⟩, (But.refl _ _).set4 (u00.heap.size + 3) _ _ _ _ (.inl (by simp)), (fun h => by cases h)⟩
  ·exact absurd rfl hiz
  ·exact absurd ho (by simp)
 case fin =>
  intro act u hB hL hsf hap hnw
  have d1 := hsf 1 _ rfl (by decide)
  have d2 := hsf 2 _ rfl (by decide)
  obtain ⟨ysl, ha, hy⟩ := hL.puts [89, 90] (by kernel_rfl)
  have e1 : ysl 90 = _ := (hy 90).symm.trans d1
  obtain ⟨h2, Bz⟩ := d2
  clear hL hsf hy hap hnw d1
  simp only [List.foldl, List.setIfInBounds_toArray, List.set_cons_succ, List.set_cons_zero, e1] at ha
  subst ha
  clear e1
  have ow1 : Own u gr gc gm (⟨nx s, putR s.R d m, s.C, s.M.set q.toNat y⟩ : St) := HO.out.but hB (by simp; omega) (by simp; omega) (by simp; omega)
  have Bz1 := Bz
  obtain ⟨_, z0, z1, z2, z3, _, _, _, _⟩ := Bz1
  have By := HY.out.but hB (by simp; try omega)
  have By1 := By
  obtain ⟨yl, y0, y1, y2, y3, y4, y5, y6, x0, x1, x2, x3, x4, x5, x6⟩ := By1
  have hB2 : But [gr, gc, gm] u00 u := HBt.out.trans2 hB (fun k hk => by simp at hk ⊢; omega)
  refine wpOp_step rfl (fun K hK => ?_)
  go_simp
  refine hK _ _ ?_
  refine wp_seq_gen (fun t => Own t gr gc gm (⟨nx s, putR s.R d m, s.C, s.M.set q.toNat y⟩ : St) ∧ Box4 t (u00.heap.size + 3) (.int .i64 (nx s)) (.slice (some ⟨gr, 0, none⟩) 8 cr) (.slice (some ⟨gc, 0, none⟩) 5 cc) (.slice (some ⟨gm, 0, none⟩) 256 cm) ∧ Box7 t (u00.heap.size + 4) ({ e with ad := q, dt := y, d := d, v := m }) ∧ But [gr, gc, gm] u00 t) ⟨?_, ?_, ?_, ?_⟩ ?_
  ·(repeat with_reducible first | refine Own.alloc ?_ _ | refine Own.drew ?_ | refine Own.drewN ?_ _ | refine Own.other ?_ _ _ _ (by omega) (by omega) (by omega))
   exact ow1
  ·(repeat with_reducible first | assumption | exact Box4.new _ _ _ _ _ _ _ (by first | rfl | simp | (simp; omega)) | refine Box4.alloc ?_ _ | refine Box4.drew ?_ | refine Box4.drewN ?_ _ | refine Box4.other ?_ _ _ _ (by omega))
  ·exact ((((((By.set0 _).set1 _).set2 _).set3 _).set4 _).set5 _).set6 _
  ·(repeat with_reducible first | exact But.refl _ _ | assumption | refine But.alloc ?_ _ | refine But.drew ?_ | refine But.drewN ?_ _ | refine But.set ?_ _ _ _ (by first | (left; simp; done) | (right; simp; done) | (right; omega) | (right; simp; omega)))
  clear z0 z1 z2 z3 y0 y1 y2 y3 y4 y5 y6 x0 x1 x2 x3 x4 x5 x6 By Bz ow1 hB2 hB yl
  rintro t ⟨ow2, bz, by', hB2⟩
  obtain ⟨_, z0, z1, z2, z3, _, _, _, _⟩ := bz
  obtain ⟨_, y0, y1, y2, y3, y4, y5, y6, _, _, _, _, _, _, _⟩ := by'
  go_wp2
  refine bodyPost_ret (v := .tuple #[.agg #[.int .i64 (nx s), .slice (some ⟨gr, 0, none⟩) 8 cr, .slice (some ⟨gc, 0, none⟩) 5 cc, .slice (some ⟨gm, 0, none⟩) 256 cm], .agg #[.int .i64 ({ e with ad := q, dt := y, d := d, v := m }).pc, .int .i64 ({ e with ad := q, dt := y, d := d, v := m }).w, .int .i64 ({ e with ad := q, dt := y, d := d, v := m }).why, .int .i64 ({ e with ad := q, dt := y, d := d, v := m }).d, .int .i64 ({ e with ad := q, dt := y, d := d, v := m }).v, .int .i64 ({ e with ad := q, dt := y, d := d, v := m }).ad, .int .i64 ({ e with ad := q, dt := y, d := d, v := m }).dt]]) (by simp [results, Tryd.results86, go_sem, z0, z1, z2, z3, y0, y1, y2, y3, y4, y5, y6]) rfl ?_
  exact ⟨rfl, ow2, hB2⟩
set_option maxRecDepth 8000 in
set_option maxHeartbeats 4000000 in
theorem spec_Mem_stop3 (s : St) (e : Ev) (gr gc gm cr cc cm : Nat) (d a b f n : Int) (u00 : World) (ho : Own u00 gr gc gm s) (hk : OkS s) (hi : iok 3 d a b f n = true) (hs : see s.C s.M ((rg s a + n) % 65536) false < 0) :
  Calls Tryd.prog 86 #[.agg #[.int .i64 s.pc, .slice (some ⟨gr, 0, none⟩) 8 cr, .slice (some ⟨gc, 0, none⟩) 5 cc, .slice (some ⟨gm, 0, none⟩) 256 cm], .agg #[.int .i64 3, .int .i64 d, .int .i64 a, .int .i64 b, .int .i64 f, .int .i64 n], .agg #[.int .i64 (e).pc, .int .i64 (e).w, .int .i64 (e).why, .int .i64 (e).d, .int .i64 (e).v, .int .i64 (e).ad, .int .i64 (e).dt]] u00 (MP (stopS s 3) { e with why := 3 } gr gc gm cr cc cm u00) := by
 obtain ⟨⟨d0, d1⟩, ⟨a0, a1⟩, ⟨b0, b1⟩, ⟨f0, f1⟩, n0, n1⟩ := sok_bd (sok_of hi)
 have lr := ho.R.lt
 have lc := ho.C.lt
 have lm := ho.M.lt
 have HK := Lib.hid hk
 have HO0 := Lib.hid ho
 have HCl := Lib.hid hk.Cl
 have HC3 := Lib.hid (And.intro (ok_get hk.C 3).1 hk.c3)
 have ra := ok_get hk.R a.toNat
 have ca := ho.R.cel a.toNat (by have := hk.Rl; omega)
 have cb := ho.R.cel b.toNat (by have := hk.Rl; omega)
 have pb := okB_true hk.pc
 have a8 : a < 8 := by omega
 have b8 : b < 8 := by omega
 have hab : 0 ≤ (rg s a + n) % 65536 ∧ (rg s a + n) % 65536 < 65536 := by omega
 have EP := Lib.hid (fun (v : World) (ov : Own v gr gc gm s) => spec_l4Page s.C s.M (some ⟨gc, 0, none⟩) (some ⟨gm, 0, none⟩) cc cm ((rg s a + n) % 65536) false v ov.C.src ov.M.src hk.Cl hk.Ml hk.C hk.M hab.1 hab.2)
 rw [hk.Cl, hk.Ml] at EP
 have HQ := see_bd s.C s.M ((rg s a + n) % 65536) false hab.1
 have HRl := Lib.hid (show a.toNat < s.R.length by have := hk.Rl; omega)
 have HRb := Lib.hid (show b.toNat < s.R.length by have := hk.Rl; omega)
 have HMl := Lib.hid hk.Ml
 have HRL := Lib.hid hk.Rl
 have hra : 0 ≤ rg s a ∧ rg s a < 65536 := okB_true (rg_ok hk a)
 generalize hq : see s.C s.M ((rg s a + n) % 65536) false = q at *
 clear hq
 obtain ⟨x, hx⟩ : ∃ x, x = rg s a := ⟨_, rfl⟩
 obtain ⟨y, hy⟩ : ∃ y, y = rg s b := ⟨_, rfl⟩
 obtain ⟨m, hm⟩ : ∃ m, m = mm s q := ⟨_, rfl⟩
 have HX := Lib.hid (show s.R.getD a.toNat 0 = x from hx.symm)
 have HYY := Lib.hid (show s.R.getD b.toNat 0 = y from hy.symm)
 have HM := Lib.hid (show s.M.getD q.toNat 0 = m from hm.symm)
 rw [← hx] at EP hra hab
 clear hx hy hm ca cb ra ho hi hk
 go_enter Tryd.func86, Tryd.ntmps86
 go_wp2_with fail
 refine wp_gen (fun v => Lo v u00.heap.size s gr gc gm cr cc cm 3 d a b f n e ∧ But [gr, gc, gm] u00 v) ⟨⟨?_, ?_, ?_, ?_, ?_, ?_⟩, ?_⟩ ?_
 ·(repeat with_reducible first | assumption | exact Box4.new _ _ _ _ _ _ _ (by first | rfl | simp | (simp; omega)) | refine Box4.alloc ?_ _ | refine Box4.drew ?_ | refine Box4.drewN ?_ _ | refine Box4.other ?_ _ _ _ (by omega))
 ·(repeat with_reducible first | assumption | exact Box.new6 _ _ _ _ _ _ _ _ _ (by first | rfl | simp | (simp; omega)) | refine Box.alloc ?_ _ | refine Box.drew ?_ | refine Box.drewN ?_ _ | refine Box.other ?_ _ _ _ (by omega))
 ·(repeat with_reducible first | assumption | exact Box7.new _ _ _ _ (by first | rfl | simp | (simp; omega)) | exact Box7.newv _ _ _ _ _ _ _ _ _ _ (by first | rfl | simp | (simp; omega)) | refine Box7.alloc ?_ _ | refine Box7.drew ?_ | refine Box7.drewN ?_ _ | refine Box7.other ?_ _ _ _ (by omega))
 ·(repeat with_reducible first | assumption | exact Box4.new _ _ _ _ _ _ _ (by first | rfl | simp | (simp; omega)) | refine Box4.alloc ?_ _ | refine Box4.drew ?_ | refine Box4.drewN ?_ _ | refine Box4.other ?_ _ _ _ (by omega))
 ·(repeat with_reducible first | assumption | exact Box7.new _ _ _ _ (by first | rfl | simp | (simp; omega)) | exact Box7.newv _ _ _ _ _ _ _ _ _ _ (by first | rfl | simp | (simp; omega)) | refine Box7.alloc ?_ _ | refine Box7.drew ?_ | refine Box7.drewN ?_ _ | refine Box7.other ?_ _ _ _ (by omega))
 ·(repeat with_reducible first | refine Own.alloc ?_ _ | refine Own.drew ?_ | refine Own.drewN ?_ _ | refine Own.other ?_ _ _ _ (by omega) (by omega) (by omega))
  exact HO0.out
 ·(repeat with_reducible first | exact But.refl _ _ | assumption | refine But.alloc ?_ _ | refine But.drew ?_ | refine But.drewN ?_ _ | refine But.set ?_ _ _ _ (by first | (left; simp; done) | (right; simp; done) | (right; omega) | (right; simp; omega)))
 simp only [Nat.add_assoc, Nat.reduceAdd]
 rintro v ⟨lo, hB⟩
 have HLo := Lib.hid lo
 have HBt := Lib.hid hB
 have hsz := hB.size
 have ca := lo.O.R.cel a.toNat HRl.out
 have cb := lo.O.R.cel b.toNat HRb.out
 rw [HX.out] at ca
 rw [HYY.out] at cb
 obtain ⟨⟨g1, s0, s1, s2, s3, S0, S1, S2, S3⟩, ⟨i0, i1, i2, i3, i4, i5⟩, ⟨g5, e0, e1, e2, e3, e4, e5, e6, E0, E1, E2, E3, E4, E5, E6⟩, g6, g7, g8⟩ := lo
 clear hB g1 g5 g6 g7 g8
 go_quiet ((go_at_call 110; refine quiet_mine (spec_l1Wrap _ _)))
 refine wp_seq_gen (fun v => Lo v u00.heap.size s gr gc gm cr cc cm 3 d a b f n e ∧ But [gr, gc, gm] u00 v) ⟨?_, ?_⟩ ?_
 ·obtain ⟨q1, q2, q3, q4, q5, q6⟩ := HLo.out
  exact ⟨q1.drewN _, q2.drewN _, q3.drewN _, q4.drewN _, q5.drewN _, q6.drewN _⟩
 ·exact HBt.out.drewN _
 clear s0 s1 s2 s3 S0 S1 S2 S3 i0 i1 i2 i3 i4 i5 e0 e1 e2 e3 e4 e5 e6 E0 E1 E2 E3 E4 E5 E6 ca cb hsz
 clear HLo HBt
 clear v
 rintro v1 ⟨lo, hB⟩
 have HLo := Lib.hid lo
 have HBt := Lib.hid hB
 have hsz := hB.size
 have ca := lo.O.R.cel a.toNat HRl.out
 have cb := lo.O.R.cel b.toNat HRb.out
 rw [HX.out] at ca
 rw [HYY.out] at cb
 obtain ⟨⟨g1, s0, s1, s2, s3, S0, S1, S2, S3⟩, ⟨i0, i1, i2, i3, i4, i5⟩, ⟨g5, e0, e1, e2, e3, e4, e5, e6, E0, E1, E2, E3, E4, E5, E6⟩, g6, g7, g8⟩ := lo
 clear hB g1 g5 g6 g7 g8
 go_wp2_with fail
 refine (EP.out v1 HLo.out.O).mono ?_
 rintro e' w' ⟨rfl, rfl⟩
 go_wp2_with fail
 refine wp_gen (fun v => Lo v u00.heap.size s gr gc gm cr cc cm 3 d a b f n { e with why := 3 } ∧ But [gr, gc, gm] u00 v) ⟨⟨?_, ?_, ?_, ?_, ?_, ?_⟩, ?_⟩ ?_
 ·have q1 := HLo.out.S
  (repeat with_reducible first | assumption | exact Box4.new _ _ _ _ _ _ _ (by first | rfl | simp | (simp; omega)) | refine Box4.alloc ?_ _ | refine Box4.drew ?_ | refine Box4.drewN ?_ _ | refine Box4.other ?_ _ _ _ (by omega))
 ·have q1 := HLo.out.C
  (repeat with_reducible first | assumption | exact Box.new6 _ _ _ _ _ _ _ _ _ (by first | rfl | simp | (simp; omega)) | refine Box.alloc ?_ _ | refine Box.drew ?_ | refine Box.drewN ?_ _ | refine Box.other ?_ _ _ _ (by omega))
 ·have q1 := HLo.out.E
  exact (q1.set2 4).set2 3
 ·have q1 := HLo.out.Z
  (repeat with_reducible first | assumption | exact Box4.new _ _ _ _ _ _ _ (by first | rfl | simp | (simp; omega)) | refine Box4.alloc ?_ _ | refine Box4.drew ?_ | refine Box4.drewN ?_ _ | refine Box4.other ?_ _ _ _ (by omega))
 ·have q1 := HLo.out.Y
  (repeat with_reducible first | assumption | exact Box7.new _ _ _ _ (by first | rfl | simp | (simp; omega)) | exact Box7.newv _ _ _ _ _ _ _ _ _ _ (by first | rfl | simp | (simp; omega)) | refine Box7.alloc ?_ _ | refine Box7.drew ?_ | refine Box7.drewN ?_ _ | refine Box7.other ?_ _ _ _ (by omega))
 ·have q1 := HLo.out.O
  (repeat with_reducible first | refine Own.alloc ?_ _ | refine Own.drew ?_ | refine Own.drewN ?_ _ | refine Own.other ?_ _ _ _ (by omega) (by omega) (by omega))
  exact q1
 ·have hB := HBt.out
  (repeat with_reducible first | exact But.refl _ _ | assumption | refine But.alloc ?_ _ | refine But.drew ?_ | refine But.drewN ?_ _ | refine But.set ?_ _ _ _ (by first | (left; simp; done) | (right; simp; done) | (right; omega) | (right; simp; omega)))
 clear s0 s1 s2 s3 S0 S1 S2 S3 i0 i1 i2 i3 i4 i5 e0 e1 e2 e3 e4 e5 e6 E0 E1 E2 E3 E4 E5 E6 ca cb hsz
 clear HLo HBt
 clear v1
 rintro v0 ⟨lo, hB⟩
 have HLo := Lib.hid lo
 have HBt := Lib.hid hB
 have hsz := hB.size
 obtain ⟨⟨g1, s0, s1, s2, s3, S0, S1, S2, S3⟩, ⟨i0, i1, i2, i3, i4, i5⟩, ⟨g5, e0, e1, e2, e3, e4, e5, e6, E0, E1, E2, E3, E4, E5, E6⟩, g6, g7, g8⟩ := lo
 clear hB g1 g5 g6 g7 g8
 have HS := Lib.hid HLo.out.S
 have HE := Lib.hid HLo.out.E
 have HZ := Lib.hid HLo.out.Z
 have HY := Lib.hid HLo.out.Y
 have HO := Lib.hid HLo.out.O
 clear s0 s1 s2 s3 S0 S1 S2 S3 i0 i1 i2 i3 i4 i5 e0 e1 e2 e3 e4 e5 e6 E0 E1 E2 E3 E4 E5 E6 hsz
 clear HLo
 refine wp_region_rows 91 6 [gc, u00.heap.size + 3] (fun i => if i = 3 then [gc] else if i = 5 then [u00.heap.size + 3] else []) lb2_in (fun i => false) (fun i v u => match i with | 0 => v = .agg #[.int .i64 s.pc, .slice (some ⟨gr, 0, none⟩) 8 cr, .slice (some ⟨gc, 0, none⟩) 5 cc, .slice (some ⟨gm, 0, none⟩) 256 cm] | 1 => v = .pointer (some ⟨u00.heap.size + 2, 2, none⟩) | 2 => v = .int .i64 3 | 3 => v = .agg #[.int .i64 8, .slice (some ⟨gr, 0, none⟩) 8 cr, .slice (some ⟨gc, 0, none⟩) 5 cc, .slice (some ⟨gm, 0, none⟩) 256 cm] ∧ Own u gr gc gm (stopS s 3) | 4 => v = .agg #[.int .i64 ({ e with why := 3 }).pc, .int .i64 ({ e with why := 3 }).w, .int .i64 ({ e with why := 3 }).why, .int .i64 ({ e with why := 3 }).d, .int .i64 ({ e with why := 3 }).v, .int .i64 ({ e with why := 3 }).ad, .int .i64 ({ e with why := 3 }).dt] | 5 => v = undef ∧ Box4 u (u00.heap.size + 3) (.int .i64 8) (.slice (some ⟨gr, 0, none⟩) 8 cr) (.slice (some ⟨gc, 0, none⟩) 5 cc) (.slice (some ⟨gm, 0, none⟩) 256 cm) | _ => True) ?mono (by kernel_rfl) (by kernel_rfl) rfl (by kernel_rfl) (by kernel_rfl) (by decide) ?step ?fin
 case mono =>
  intro i j v u u' hi hij hdj hsz h hB
  rcases j with _ | _ | _ | _ | _ | _ | j
  ·exact h
  ·exact h
  ·exact h
  ·refine ⟨h.1, ?_⟩
   have hB' : But [u00.heap.size + 3] u u' := hB.mono (fun k hk _ => lb2_out i hij k hk)
   exact h.2.but hB' (by simp; omega) (by simp; omega) (by simp; omega)
  ·exact h
  ·refine ⟨h.1, ?_⟩
   have hB' : But [gc] u u' := hB.mono (fun k hk _ => lb2_out' i hij k hk)
   exact h.2.but hB' (by simp; omega)
  ·trivial
 case step =>
  intro i o ho hiz
  rcases i with _ | _ | _ | _ | _ | _ | _ | i
  ·clear hiz
   cases ho
   intro act u hB hL hdep hap hnw
   replace hB := hB [gc, u00.heap.size + 3] (fun j _ k hk => lb2_in j k hk)
   have x3 := out_val hL (k := 3) (by kernel_rfl) rfl rfl
   clear hdep hL hap hnw
   have Bx := HS.out.but hB (by simp; try omega)
   obtain ⟨lt, c0, c1, c2, c3, _, _, _, _⟩ := Bx
   refine wpOp_step rfl (fun K hK => ?_)
   go_simp
   exact hK _ _ ⟨_, rfl, (fun h => by cases h), rfl, But.refl _ _, (fun h => by cases h)⟩
  ·clear hiz
   cases ho
   intro act u hB hL hdep hap hnw
   replace hB := hB [gc, u00.heap.size + 3] (fun j _ k hk => lb2_in j k hk)
   have x5 := out_val hL (k := 5) (by kernel_rfl) rfl rfl
   clear hdep hL hap hnw
   refine wpOp_step rfl (fun K hK => ?_)
   go_simp
   exact hK _ _ ⟨_, rfl, (fun h => by cases h), rfl, But.refl _ _, (fun h => by cases h)⟩
  ·clear hiz
   cases ho
   intro act u hB hL hdep hap hnw
   replace hB := hB [gc, u00.heap.size + 3] (fun j _ k hk => lb2_in j k hk)
   have e1 : act.tmps.getD 38 undef = _ := hdep { on := 1, ground := .data } (by simp) rfl _ rfl
   clear hdep hL hap hnw
   have Bx := HE.out.but hB (by simp; try omega)
   obtain ⟨lt, c0, c1, c2, c3, c4, c5, c6, _, _, _, _, _, _, _⟩ := Bx
   refine wpOp_step rfl (fun K hK => ?_)
   go_simp
   exact hK _ _ ⟨_, rfl, (fun h => by cases h), rfl, But.refl _ _, (fun h => by cases h)⟩
  ·clear hiz
   cases ho
   intro act u hB hL hdep hap hnw
   replace hB := hB [u00.heap.size + 3] lb2_out
   have e0 : act.tmps.getD 37 undef = _ := hdep { on := 0, ground := .data } (by simp) rfl _ rfl
   have e2 : act.tmps.getD 39 undef = _ := hdep { on := 2, ground := .data } (by simp) rfl _ rfl
   have hdf := Lib.hid (show act.defers = [] from hL.1)
   clear hdep hL hap hnw
   refine wpOp_step rfl (fun K hK => ?_)
   go_simp
   refine (spec_l4Stop s gr gc gm cr cc cm 3 u (HO.out.but hB (by simp; omega) (by simp; omega) (by simp; omega)) HCl.out HC3.out.1 HC3.out.2).mono ?_
   rintro e u' ⟨rfl, ho', hB'⟩
   go_simp
   exact hK _ _ ⟨_, rfl, (fun h => by cases h), ⟨rfl, ho'⟩, hB', (fun h => by cases h)⟩
  ·clear hiz
   cases ho
   intro act u hB hL hdep hap hnw
   replace hB := hB [gc, u00.heap.size + 3] (fun j _ k hk => lb2_in j k hk)
   have x5 := out_val hL (k := 5) (by kernel_rfl) rfl rfl
   clear hdep hL hap hnw
   have Bx := HE.out.but hB (by simp; try omega)
   obtain ⟨lt, c0, c1, c2, c3, c4, c5, c6, _, _, _, _, _, _, _⟩ := Bx
   refine wpOp_step rfl (fun K hK => ?_)
   go_simp
   exact hK _ _ ⟨_, rfl, (fun h => by cases h), rfl, But.refl _ _, (fun h => by cases h)⟩
  ·clear hiz
   cases ho
   intro act u hB hL hdep hap hnw
   replace hB := hB [gc] lb2_out'
   obtain ⟨h3, ow⟩ := hdep { on := 3, ground := .data } (by simp) rfl _ rfl
   have e3 : act.tmps.getD 40 undef = .agg #[.int .i64 8, .slice (some ⟨gr, 0, none⟩) 8 cr, .slice (some ⟨gc, 0, none⟩) 5 cc, .slice (some ⟨gm, 0, none⟩) 256 cm] := h3
   have x6 := out_val hL (k := 6) (by kernel_rfl) rfl rfl
   clear ow
   clear hdep hL hap hnw h3
   have Bz0 := HZ.out.but hB (by simp; try omega)
   have Bz1 := Bz0
   obtain ⟨lt, c0, c1, c2, c3, f0, f1, f2, f3⟩ := Bz1
   refine wpOp_step rfl (fun K hK => ?_)
   go_simp
   exact hK _ _ ⟨undef, rfl, (fun _ => rfl), ⟨rfl, Bz0.set (.int .i64 8) (.slice (some ⟨gr, 0, none⟩) 8 cr) (.slice (some ⟨gc, 0, none⟩) 5 cc) (.slice (some ⟨gm, 0, none⟩) 256 cm)⟩, (But.refl _ _).set4 (u00.heap.size + 3) _ _ _ _ (.inl (by simp)), (fun h => by cases h)⟩
  ·exact absurd rfl hiz
  ·exact absurd ho (by simp)
 case fin =>
  intro act u hB hL hsf hap hnw
  have d4 := hsf 4 _ rfl (by decide)
  have d5 := hsf 5 _ rfl (by decide)
  have d3 := hsf 3 _ rfl (by decide)
  obtain ⟨ysl, ha, hy⟩ := hL.puts [37, 38, 39, 40, 41] (by kernel_rfl)
  have e4 : ysl 41 = _ := (hy 41).symm.trans d4
  obtain ⟨h5, Bz⟩ := d5
  obtain ⟨h3, ow⟩ := d3
  have e3 : ysl 40 = .agg #[.int .i64 8, .slice (some ⟨gr, 0, none⟩) 8 cr, .slice (some ⟨gc, 0, none⟩) 5 cc, .slice (some ⟨gm, 0, none⟩) 256 cm] := (hy 40).symm.trans h3
  clear hL hsf hy hap hnw d4 h3
  simp only [List.foldl, List.setIfInBounds_toArray, List.set_cons_succ, List.set_cons_zero, e4, e3] at ha
  subst ha
  clear e4 e3
  have ow1 : Own u gr gc gm (stopS s 3) := ow
  have Bz1 := Bz
  obtain ⟨_, z0, z1, z2, z3, _, _, _, _⟩ := Bz1
  have By := HY.out.but hB (by simp; try omega)
  have By1 := By
  obtain ⟨yl, y0, y1, y2, y3, y4, y5, y6, x0, x1, x2, x3, x4, x5, x6⟩ := By1
  have hB2 : But [gr, gc, gm] u00 u := HBt.out.trans2 hB (fun k hk => by simp at hk ⊢; omega)
  refine wpOp_step rfl (fun K hK => ?_)
  go_simp
  refine hK _ _ ?_
  refine wp_seq_gen (fun t => Own t gr gc gm (stopS s 3) ∧ Box4 t (u00.heap.size + 3) (.int .i64 8) (.slice (some ⟨gr, 0, none⟩) 8 cr) (.slice (some ⟨gc, 0, none⟩) 5 cc) (.slice (some ⟨gm, 0, none⟩) 256 cm) ∧ Box7 t (u00.heap.size + 4) ({ e with why := 3 }) ∧ But [gr, gc, gm] u00 t) ⟨?_, ?_, ?_, ?_⟩ ?_
  ·(repeat with_reducible first | refine Own.alloc ?_ _ | refine Own.drew ?_ | refine Own.drewN ?_ _ | refine Own.other ?_ _ _ _ (by omega) (by omega) (by omega))
   exact ow1
  ·(repeat with_reducible first | assumption | exact Box4.new _ _ _ _ _ _ _ (by first | rfl | simp | (simp; omega)) | refine Box4.alloc ?_ _ | refine Box4.drew ?_ | refine Box4.drewN ?_ _ | refine Box4.other ?_ _ _ _ (by omega))
  ·exact ((((((By.set0 _).set1 _).set2 _).set3 _).set4 _).set5 _).set6 _
  ·(repeat with_reducible first | exact But.refl _ _ | assumption | refine But.alloc ?_ _ | refine But.drew ?_ | refine But.drewN ?_ _ | refine But.set ?_ _ _ _ (by first | (left; simp; done) | (right; simp; done) | (right; omega) | (right; simp; omega)))
  clear z0 z1 z2 z3 y0 y1 y2 y3 y4 y5 y6 x0 x1 x2 x3 x4 x5 x6 By Bz ow1 hB2 hB yl
  rintro t ⟨ow2, bz, by', hB2⟩
  obtain ⟨_, z0, z1, z2, z3, _, _, _, _⟩ := bz
  obtain ⟨_, y0, y1, y2, y3, y4, y5, y6, _, _, _, _, _, _, _⟩ := by'
  go_wp2
  refine bodyPost_ret (v := .tuple #[.agg #[.int .i64 8, .slice (some ⟨gr, 0, none⟩) 8 cr, .slice (some ⟨gc, 0, none⟩) 5 cc, .slice (some ⟨gm, 0, none⟩) 256 cm], .agg #[.int .i64 ({ e with why := 3 }).pc, .int .i64 ({ e with why := 3 }).w, .int .i64 ({ e with why := 3 }).why, .int .i64 ({ e with why := 3 }).d, .int .i64 ({ e with why := 3 }).v, .int .i64 ({ e with why := 3 }).ad, .int .i64 ({ e with why := 3 }).dt]]) (by simp [results, Tryd.results86, go_sem, z0, z1, z2, z3, y0, y1, y2, y3, y4, y5, y6]) rfl ?_
  exact ⟨rfl, ow2, hB2⟩
set_option maxRecDepth 8000 in
set_option maxHeartbeats 4000000 in
theorem spec_Mem_stop4 (s : St) (e : Ev) (gr gc gm cr cc cm : Nat) (d a b f n : Int) (u00 : World) (ho : Own u00 gr gc gm s) (hk : OkS s) (hi : iok 4 d a b f n = true) (hs : see s.C s.M ((rg s a + n) % 65536) true < 0) :
  Calls Tryd.prog 86 #[.agg #[.int .i64 s.pc, .slice (some ⟨gr, 0, none⟩) 8 cr, .slice (some ⟨gc, 0, none⟩) 5 cc, .slice (some ⟨gm, 0, none⟩) 256 cm], .agg #[.int .i64 4, .int .i64 d, .int .i64 a, .int .i64 b, .int .i64 f, .int .i64 n], .agg #[.int .i64 (e).pc, .int .i64 (e).w, .int .i64 (e).why, .int .i64 (e).d, .int .i64 (e).v, .int .i64 (e).ad, .int .i64 (e).dt]] u00 (MP (stopS s 4) { e with why := 4 } gr gc gm cr cc cm u00) := by
 obtain ⟨⟨d0, d1⟩, ⟨a0, a1⟩, ⟨b0, b1⟩, ⟨f0, f1⟩, n0, n1⟩ := sok_bd (sok_of hi)
 have lr := ho.R.lt
 have lc := ho.C.lt
 have lm := ho.M.lt
 have HK := Lib.hid hk
 have HO0 := Lib.hid ho
 have HCl := Lib.hid hk.Cl
 have HC3 := Lib.hid (And.intro (ok_get hk.C 3).1 hk.c3)
 have ra := ok_get hk.R a.toNat
 have ca := ho.R.cel a.toNat (by have := hk.Rl; omega)
 have cb := ho.R.cel b.toNat (by have := hk.Rl; omega)
 have pb := okB_true hk.pc
 have a8 : a < 8 := by omega
 have b8 : b < 8 := by omega
 have hab : 0 ≤ (rg s a + n) % 65536 ∧ (rg s a + n) % 65536 < 65536 := by omega
 have EP := Lib.hid (fun (v : World) (ov : Own v gr gc gm s) => spec_l4Page s.C s.M (some ⟨gc, 0, none⟩) (some ⟨gm, 0, none⟩) cc cm ((rg s a + n) % 65536) true v ov.C.src ov.M.src hk.Cl hk.Ml hk.C hk.M hab.1 hab.2)
 rw [hk.Cl, hk.Ml] at EP
 have HQ := see_bd s.C s.M ((rg s a + n) % 65536) true hab.1
 have HRl := Lib.hid (show a.toNat < s.R.length by have := hk.Rl; omega)
 have HRb := Lib.hid (show b.toNat < s.R.length by have := hk.Rl; omega)
 have HMl := Lib.hid hk.Ml
 have HRL := Lib.hid hk.Rl
 have hra : 0 ≤ rg s a ∧ rg s a < 65536 := okB_true (rg_ok hk a)
 generalize hq : see s.C s.M ((rg s a + n) % 65536) true = q at *
 clear hq
 obtain ⟨x, hx⟩ : ∃ x, x = rg s a := ⟨_, rfl⟩
 obtain ⟨y, hy⟩ : ∃ y, y = rg s b := ⟨_, rfl⟩
 obtain ⟨m, hm⟩ : ∃ m, m = mm s q := ⟨_, rfl⟩
 have HX := Lib.hid (show s.R.getD a.toNat 0 = x from hx.symm)
 have HYY := Lib.hid (show s.R.getD b.toNat 0 = y from hy.symm)
 have HM := Lib.hid (show s.M.getD q.toNat 0 = m from hm.symm)
 rw [← hx] at EP hra hab
 clear hx hy hm ca cb ra ho hi hk
 go_enter Tryd.func86, Tryd.ntmps86
 go_wp2_with fail
 refine wp_gen (fun v => Lo v u00.heap.size s gr gc gm cr cc cm 4 d a b f n e ∧ But [gr, gc, gm] u00 v) ⟨⟨?_, ?_, ?_, ?_, ?_, ?_⟩, ?_⟩ ?_
 ·(repeat with_reducible first | assumption | exact Box4.new _ _ _ _ _ _ _ (by first | rfl | simp | (simp; omega)) | refine Box4.alloc ?_ _ | refine Box4.drew ?_ | refine Box4.drewN ?_ _ | refine Box4.other ?_ _ _ _ (by omega))
 ·(repeat with_reducible first | assumption | exact Box.new6 _ _ _ _ _ _ _ _ _ (by first | rfl | simp | (simp; omega)) | refine Box.alloc ?_ _ | refine Box.drew ?_ | refine Box.drewN ?_ _ | refine Box.other ?_ _ _ _ (by omega))
 ·(repeat with_reducible first | assumption | exact Box7.new _ _ _ _ (by first | rfl | simp | (simp; omega)) | exact Box7.newv _ _ _ _ _ _ _ _ _ _ (by first | rfl | simp | (simp; omega)) | refine Box7.alloc ?_ _ | refine Box7.drew ?_ | refine Box7.drewN ?_ _ | refine Box7.other ?_ _ _ _ (by omega))
 ·(repeat with_reducible first | assumption | exact Box4.new _ _ _ _ _ _ _ (by first | rfl | simp | (simp; omega)) | refine Box4.alloc ?_ _ | refine Box4.drew ?_ | refine Box4.drewN ?_ _ | refine Box4.other ?_ _ _ _ (by omega))
 ·(repeat with_reducible first | assumption | exact Box7.new _ _ _ _ (by first | rfl | simp | (simp; omega)) | exact Box7.newv _ _ _ _ _ _ _ _ _ _ (by first | rfl | simp | (simp; omega)) | refine Box7.alloc ?_ _ | refine Box7.drew ?_ | refine Box7.drewN ?_ _ | refine Box7.other ?_ _ _ _ (by omega))
 ·(repeat with_reducible first | refine Own.alloc ?_ _ | refine Own.drew ?_ | refine Own.drewN ?_ _ | refine Own.other ?_ _ _ _ (by omega) (by omega) (by omega))
  exact HO0.out
 ·(repeat with_reducible first | exact But.refl _ _ | assumption | refine But.alloc ?_ _ | refine But.drew ?_ | refine But.drewN ?_ _ | refine But.set ?_ _ _ _ (by first | (left; simp; done) | (right; simp; done) | (right; omega) | (right; simp; omega)))
 simp only [Nat.add_assoc, Nat.reduceAdd]
 rintro v ⟨lo, hB⟩
 have HLo := Lib.hid lo
 have HBt := Lib.hid hB
 have hsz := hB.size
 have ca := lo.O.R.cel a.toNat HRl.out
 have cb := lo.O.R.cel b.toNat HRb.out
 rw [HX.out] at ca
 rw [HYY.out] at cb
 obtain ⟨⟨g1, s0, s1, s2, s3, S0, S1, S2, S3⟩, ⟨i0, i1, i2, i3, i4, i5⟩, ⟨g5, e0, e1, e2, e3, e4, e5, e6, E0, E1, E2, E3, E4, E5, E6⟩, g6, g7, g8⟩ := lo
 clear hB g1 g5 g6 g7 g8
 go_quiet ((go_at_call 110; refine quiet_mine (spec_l1Wrap _ _)))
 refine wp_seq_gen (fun v => Lo v u00.heap.size s gr gc gm cr cc cm 4 d a b f n e ∧ But [gr, gc, gm] u00 v) ⟨?_, ?_⟩ ?_
 ·obtain ⟨q1, q2, q3, q4, q5, q6⟩ := HLo.out
  exact ⟨q1.drewN _, q2.drewN _, q3.drewN _, q4.drewN _, q5.drewN _, q6.drewN _⟩
 ·exact HBt.out.drewN _
 clear s0 s1 s2 s3 S0 S1 S2 S3 i0 i1 i2 i3 i4 i5 e0 e1 e2 e3 e4 e5 e6 E0 E1 E2 E3 E4 E5 E6 ca cb hsz
 clear HLo HBt
 clear v
 rintro v1 ⟨lo, hB⟩
 have HLo := Lib.hid lo
 have HBt := Lib.hid hB
 have hsz := hB.size
 have ca := lo.O.R.cel a.toNat HRl.out
 have cb := lo.O.R.cel b.toNat HRb.out
 rw [HX.out] at ca
 rw [HYY.out] at cb
 obtain ⟨⟨g1, s0, s1, s2, s3, S0, S1, S2, S3⟩, ⟨i0, i1, i2, i3, i4, i5⟩, ⟨g5, e0, e1, e2, e3, e4, e5, e6, E0, E1, E2, E3, E4, E5, E6⟩, g6, g7, g8⟩ := lo
 clear hB g1 g5 g6 g7 g8
 go_wp2_with fail
 refine (EP.out v1 HLo.out.O).mono ?_
 rintro e' w' ⟨rfl, rfl⟩
 go_wp2_with fail
 refine wp_gen (fun v => Lo v u00.heap.size s gr gc gm cr cc cm 4 d a b f n { e with why := 4 } ∧ But [gr, gc, gm] u00 v) ⟨⟨?_, ?_, ?_, ?_, ?_, ?_⟩, ?_⟩ ?_
 ·have q1 := HLo.out.S
  (repeat with_reducible first | assumption | exact Box4.new _ _ _ _ _ _ _ (by first | rfl | simp | (simp; omega)) | refine Box4.alloc ?_ _ | refine Box4.drew ?_ | refine Box4.drewN ?_ _ | refine Box4.other ?_ _ _ _ (by omega))
 ·have q1 := HLo.out.C
  (repeat with_reducible first | assumption | exact Box.new6 _ _ _ _ _ _ _ _ _ (by first | rfl | simp | (simp; omega)) | refine Box.alloc ?_ _ | refine Box.drew ?_ | refine Box.drewN ?_ _ | refine Box.other ?_ _ _ _ (by omega))
 ·have q1 := HLo.out.E
  exact q1.set2 4
 ·have q1 := HLo.out.Z
  (repeat with_reducible first | assumption | exact Box4.new _ _ _ _ _ _ _ (by first | rfl | simp | (simp; omega)) | refine Box4.alloc ?_ _ | refine Box4.drew ?_ | refine Box4.drewN ?_ _ | refine Box4.other ?_ _ _ _ (by omega))
 ·have q1 := HLo.out.Y
  (repeat with_reducible first | assumption | exact Box7.new _ _ _ _ (by first | rfl | simp | (simp; omega)) | exact Box7.newv _ _ _ _ _ _ _ _ _ _ (by first | rfl | simp | (simp; omega)) | refine Box7.alloc ?_ _ | refine Box7.drew ?_ | refine Box7.drewN ?_ _ | refine Box7.other ?_ _ _ _ (by omega))
 ·have q1 := HLo.out.O
  (repeat with_reducible first | refine Own.alloc ?_ _ | refine Own.drew ?_ | refine Own.drewN ?_ _ | refine Own.other ?_ _ _ _ (by omega) (by omega) (by omega))
  exact q1
 ·have hB := HBt.out
  (repeat with_reducible first | exact But.refl _ _ | assumption | refine But.alloc ?_ _ | refine But.drew ?_ | refine But.drewN ?_ _ | refine But.set ?_ _ _ _ (by first | (left; simp; done) | (right; simp; done) | (right; omega) | (right; simp; omega)))
 clear s0 s1 s2 s3 S0 S1 S2 S3 i0 i1 i2 i3 i4 i5 e0 e1 e2 e3 e4 e5 e6 E0 E1 E2 E3 E4 E5 E6 ca cb hsz
 clear HLo HBt
 clear v1
 rintro v0 ⟨lo, hB⟩
 have HLo := Lib.hid lo
 have HBt := Lib.hid hB
 have hsz := hB.size
 obtain ⟨⟨g1, s0, s1, s2, s3, S0, S1, S2, S3⟩, ⟨i0, i1, i2, i3, i4, i5⟩, ⟨g5, e0, e1, e2, e3, e4, e5, e6, E0, E1, E2, E3, E4, E5, E6⟩, g6, g7, g8⟩ := lo
 clear hB g1 g5 g6 g7 g8
 have HS := Lib.hid HLo.out.S
 have HE := Lib.hid HLo.out.E
 have HZ := Lib.hid HLo.out.Z
 have HY := Lib.hid HLo.out.Y
 have HO := Lib.hid HLo.out.O
 clear s0 s1 s2 s3 S0 S1 S2 S3 i0 i1 i2 i3 i4 i5 e0 e1 e2 e3 e4 e5 e6 E0 E1 E2 E3 E4 E5 E6 hsz
 clear HLo
 refine wp_region_rows 91 6 [gc, u00.heap.size + 3] (fun i => if i = 3 then [gc] else if i = 5 then [u00.heap.size + 3] else []) lb2_in (fun i => false) (fun i v u => match i with | 0 => v = .agg #[.int .i64 s.pc, .slice (some ⟨gr, 0, none⟩) 8 cr, .slice (some ⟨gc, 0, none⟩) 5 cc, .slice (some ⟨gm, 0, none⟩) 256 cm] | 1 => v = .pointer (some ⟨u00.heap.size + 2, 2, none⟩) | 2 => v = .int .i64 4 | 3 => v = .agg #[.int .i64 8, .slice (some ⟨gr, 0, none⟩) 8 cr, .slice (some ⟨gc, 0, none⟩) 5 cc, .slice (some ⟨gm, 0, none⟩) 256 cm] ∧ Own u gr gc gm (stopS s 4) | 4 => v = .agg #[.int .i64 ({ e with why := 4 }).pc, .int .i64 ({ e with why := 4 }).w, .int .i64 ({ e with why := 4 }).why, .int .i64 ({ e with why := 4 }).d, .int .i64 ({ e with why := 4 }).v, .int .i64 ({ e with why := 4 }).ad, .int .i64 ({ e with why := 4 }).dt] | 5 => v = undef ∧ Box4 u (u00.heap.size + 3) (.int .i64 8) (.slice (some ⟨gr, 0, none⟩) 8 cr) (.slice (some ⟨gc, 0, none⟩) 5 cc) (.slice (some ⟨gm, 0, none⟩) 256 cm) | _ => True) ?mono (by kernel_rfl) (by kernel_rfl) rfl (by kernel_rfl) (by kernel_rfl) (by decide) ?step ?fin
 case mono =>
  intro i j v u u' hi hij hdj hsz h hB
  rcases j with _ | _ | _ | _ | _ | _ | j
  ·exact h
  ·exact h
  ·exact h
  ·refine ⟨h.1, ?_⟩
   have hB' : But [u00.heap.size + 3] u u' := hB.mono (fun k hk _ => lb2_out i hij k hk)
   exact h.2.but hB' (by simp; omega) (by simp; omega) (by simp; omega)
  ·exact h
  ·refine ⟨h.1, ?_⟩
   have hB' : But [gc] u u' := hB.mono (fun k hk _ => lb2_out' i hij k hk)
   exact h.2.but hB' (by simp; omega)
  ·trivial
 case step =>
  intro i o ho hiz
  rcases i with _ | _ | _ | _ | _ | _ | _ | i
  ·clear hiz
   cases ho
   intro act u hB hL hdep hap hnw
   replace hB := hB [gc, u00.heap.size + 3] (fun j _ k hk => lb2_in j k hk)
   have x3 := out_val hL (k := 3) (by kernel_rfl) rfl rfl
   clear hdep hL hap hnw
   have Bx := HS.out.but hB (by simp; try omega)
   obtain ⟨lt, c0, c1, c2, c3, _, _, _, _⟩ := Bx
   refine wpOp_step rfl (fun K hK => ?_)
   go_simp
   exact hK _ _ ⟨_, rfl, (fun h => by cases h), rfl, But.refl _ _, (fun h => by cases h)⟩
  ·clear hiz
   cases ho
   intro act u hB hL hdep hap hnw
   replace hB := hB [gc, u00.heap.size + 3] (fun j _ k hk => lb2_in j k hk)
   have x5 := out_val hL (k := 5) (by kernel_rfl) rfl rfl
   clear hdep hL hap hnw
   refine wpOp_step rfl (fun K hK => ?_)
   go_simp
   exact hK _ _ ⟨_, rfl, (fun h => by cases h), rfl, But.refl _ _, (fun h => by cases h)⟩
  ·clear hiz
   cases ho
   intro act u hB hL hdep hap hnw
   replace hB := hB [gc, u00.heap.size + 3] (fun j _ k hk => lb2_in j k hk)
   have e1 : act.tmps.getD 38 undef = _ := hdep { on := 1, ground := .data } (by simp) rfl _ rfl
   clear hdep hL hap hnw
   have Bx := HE.out.but hB (by simp; try omega)
   obtain ⟨lt, c0, c1, c2, c3, c4, c5, c6, _, _, _, _, _, _, _⟩ := Bx
   refine wpOp_step rfl (fun K hK => ?_)
   go_simp
   exact hK _ _ ⟨_, rfl, (fun h => by cases h), rfl, But.refl _ _, (fun h => by cases h)⟩
  ·clear hiz
   cases ho
   intro act u hB hL hdep hap hnw
   replace hB := hB [u00.heap.size + 3] lb2_out
   have e0 : act.tmps.getD 37 undef = _ := hdep { on := 0, ground := .data } (by simp) rfl _ rfl
   have e2 : act.tmps.getD 39 undef = _ := hdep { on := 2, ground := .data } (by simp) rfl _ rfl
   have hdf := Lib.hid (show act.defers = [] from hL.1)
   clear hdep hL hap hnw
   refine wpOp_step rfl (fun K hK => ?_)
   go_simp
   refine (spec_l4Stop s gr gc gm cr cc cm 4 u (HO.out.but hB (by simp; omega) (by simp; omega) (by simp; omega)) HCl.out HC3.out.1 HC3.out.2).mono ?_
   rintro e u' ⟨rfl, ho', hB'⟩
   go_simp
   exact hK _ _ ⟨_, rfl, (fun h => by cases h), ⟨rfl, ho'⟩, hB', (fun h => by cases h)⟩
  ·clear hiz
   cases ho
   intro act u hB hL hdep hap hnw
   replace hB := hB [gc, u00.heap.size + 3] (fun j _ k hk => lb2_in j k hk)
   have x5 := out_val hL (k := 5) (by kernel_rfl) rfl rfl
   clear hdep hL hap hnw
   have Bx := HE.out.but hB (by simp; try omega)
   obtain ⟨lt, c0, c1, c2, c3, c4, c5, c6, _, _, _, _, _, _, _⟩ := Bx
   refine wpOp_step rfl (fun K hK => ?_)
   go_simp
   exact hK _ _ ⟨_, rfl, (fun h => by cases h), rfl, But.refl _ _, (fun h => by cases h)⟩
  ·clear hiz
   cases ho
   intro act u hB hL hdep hap hnw
   replace hB := hB [gc] lb2_out'
   obtain ⟨h3, ow⟩ := hdep { on := 3, ground := .data } (by simp) rfl _ rfl
   have e3 : act.tmps.getD 40 undef = .agg #[.int .i64 8, .slice (some ⟨gr, 0, none⟩) 8 cr, .slice (some ⟨gc, 0, none⟩) 5 cc, .slice (some ⟨gm, 0, none⟩) 256 cm] := h3
   have x6 := out_val hL (k := 6) (by kernel_rfl) rfl rfl
   clear ow
   clear hdep hL hap hnw h3
   have Bz0 := HZ.out.but hB (by simp; try omega)
   have Bz1 := Bz0
   obtain ⟨lt, c0, c1, c2, c3, f0, f1, f2, f3⟩ := Bz1
   refine wpOp_step rfl (fun K hK => ?_)
   go_simp
   exact hK _ _ ⟨undef, rfl, (fun _ => rfl), ⟨rfl, Bz0.set (.int .i64 8) (.slice (some ⟨gr, 0, none⟩) 8 cr) (.slice (some ⟨gc, 0, none⟩) 5 cc) (.slice (some ⟨gm, 0, none⟩) 256 cm)⟩, (But.refl _ _).set4 (u00.heap.size + 3) _ _ _ _ (.inl (by simp)), (fun h => by cases h)⟩
  ·exact absurd rfl hiz
  ·exact absurd ho (by simp)
 case fin =>
  intro act u hB hL hsf hap hnw
  have d4 := hsf 4 _ rfl (by decide)
  have d5 := hsf 5 _ rfl (by decide)
  have d3 := hsf 3 _ rfl (by decide)
  obtain ⟨ysl, ha, hy⟩ := hL.puts [37, 38, 39, 40, 41] (by kernel_rfl)
  have e4 : ysl 41 = _ := (hy 41).symm.trans d4
  obtain ⟨h5, Bz⟩ := d5
  obtain ⟨h3, ow⟩ := d3
  have e3 : ysl 40 = .agg #[.int .i64 8, .slice (some ⟨gr, 0, none⟩) 8 cr, .slice (some ⟨gc, 0, none⟩) 5 cc, .slice (some ⟨gm, 0, none⟩) 256 cm] := (hy 40).symm.trans h3
  clear hL hsf hy hap hnw d4 h3
  simp only [List.foldl, List.setIfInBounds_toArray, List.set_cons_succ, List.set_cons_zero, e4, e3] at ha
  subst ha
  clear e4 e3
  have ow1 : Own u gr gc gm (stopS s 4) := ow
  have Bz1 := Bz
  obtain ⟨_, z0, z1, z2, z3, _, _, _, _⟩ := Bz1
  have By := HY.out.but hB (by simp; try omega)
  have By1 := By
  obtain ⟨yl, y0, y1, y2, y3, y4, y5, y6, x0, x1, x2, x3, x4, x5, x6⟩ := By1
  have hB2 : But [gr, gc, gm] u00 u := HBt.out.trans2 hB (fun k hk => by simp at hk ⊢; omega)
  refine wpOp_step rfl (fun K hK => ?_)
  go_simp
  refine hK _ _ ?_
  refine wp_seq_gen (fun t => Own t gr gc gm (stopS s 4) ∧ Box4 t (u00.heap.size + 3) (.int .i64 8) (.slice (some ⟨gr, 0, none⟩) 8 cr) (.slice (some ⟨gc, 0, none⟩) 5 cc) (.slice (some ⟨gm, 0, none⟩) 256 cm) ∧ Box7 t (u00.heap.size + 4) ({ e with why := 4 }) ∧ But [gr, gc, gm] u00 t) ⟨?_, ?_, ?_, ?_⟩ ?_
  ·(repeat with_reducible first | refine Own.alloc ?_ _ | refine Own.drew ?_ | refine Own.drewN ?_ _ | refine Own.other ?_ _ _ _ (by omega) (by omega) (by omega))
   exact ow1
  ·(repeat with_reducible first | assumption | exact Box4.new _ _ _ _ _ _ _ (by first | rfl | simp | (simp; omega)) | refine Box4.alloc ?_ _ | refine Box4.drew ?_ | refine Box4.drewN ?_ _ | refine Box4.other ?_ _ _ _ (by omega))
  ·exact ((((((By.set0 _).set1 _).set2 _).set3 _).set4 _).set5 _).set6 _
  ·(repeat with_reducible first | exact But.refl _ _ | assumption | refine But.alloc ?_ _ | refine But.drew ?_ | refine But.drewN ?_ _ | refine But.set ?_ _ _ _ (by first | (left; simp; done) | (right; simp; done) | (right; omega) | (right; simp; omega)))
  clear z0 z1 z2 z3 y0 y1 y2 y3 y4 y5 y6 x0 x1 x2 x3 x4 x5 x6 By Bz ow1 hB2 hB yl
  rintro t ⟨ow2, bz, by', hB2⟩
  obtain ⟨_, z0, z1, z2, z3, _, _, _, _⟩ := bz
  obtain ⟨_, y0, y1, y2, y3, y4, y5, y6, _, _, _, _, _, _, _⟩ := by'
  go_wp2
  refine bodyPost_ret (v := .tuple #[.agg #[.int .i64 8, .slice (some ⟨gr, 0, none⟩) 8 cr, .slice (some ⟨gc, 0, none⟩) 5 cc, .slice (some ⟨gm, 0, none⟩) 256 cm], .agg #[.int .i64 ({ e with why := 4 }).pc, .int .i64 ({ e with why := 4 }).w, .int .i64 ({ e with why := 4 }).why, .int .i64 ({ e with why := 4 }).d, .int .i64 ({ e with why := 4 }).v, .int .i64 ({ e with why := 4 }).ad, .int .i64 ({ e with why := 4 }).dt]]) (by simp [results, Tryd.results86, go_sem, z0, z1, z2, z3, y0, y1, y2, y3, y4, y5, y6]) rfl ?_
  exact ⟨rfl, ow2, hB2⟩
set_option maxRecDepth 8000 in
set_option maxHeartbeats 4000000 in
theorem spec_Mem_stop10 (s : St) (e : Ev) (gr gc gm cr cc cm : Nat) (d a b f n : Int) (u00 : World) (ho : Own u00 gr gc gm s) (hk : OkS s) (hi : iok 10 d a b f n = true) (hs : see s.C s.M ((rg s a + n) % 65536) true < 0) :
  Calls Tryd.prog 86 #[.agg #[.int .i64 s.pc, .slice (some ⟨gr, 0, none⟩) 8 cr, .slice (some ⟨gc, 0, none⟩) 5 cc, .slice (some ⟨gm, 0, none⟩) 256 cm], .agg #[.int .i64 10, .int .i64 d, .int .i64 a, .int .i64 b, .int .i64 f, .int .i64 n], .agg #[.int .i64 (e).pc, .int .i64 (e).w, .int .i64 (e).why, .int .i64 (e).d, .int .i64 (e).v, .int .i64 (e).ad, .int .i64 (e).dt]] u00 (MP (stopS s 4) { e with why := 4 } gr gc gm cr cc cm u00) := by
 obtain ⟨⟨d0, d1⟩, ⟨a0, a1⟩, ⟨b0, b1⟩, ⟨f0, f1⟩, n0, n1⟩ := sok_bd (sok_of hi)
 have lr := ho.R.lt
 have lc := ho.C.lt
 have lm := ho.M.lt
 have HK := Lib.hid hk
 have HO0 := Lib.hid ho
 have HCl := Lib.hid hk.Cl
 have HC3 := Lib.hid (And.intro (ok_get hk.C 3).1 hk.c3)
 have ra := ok_get hk.R a.toNat
 have ca := ho.R.cel a.toNat (by have := hk.Rl; omega)
 have cb := ho.R.cel b.toNat (by have := hk.Rl; omega)
 have pb := okB_true hk.pc
 have a8 : a < 8 := by omega
 have b8 : b < 8 := by omega
 have hab : 0 ≤ (rg s a + n) % 65536 ∧ (rg s a + n) % 65536 < 65536 := by omega
 have EP := Lib.hid (fun (v : World) (ov : Own v gr gc gm s) => spec_l4Page s.C s.M (some ⟨gc, 0, none⟩) (some ⟨gm, 0, none⟩) cc cm ((rg s a + n) % 65536) true v ov.C.src ov.M.src hk.Cl hk.Ml hk.C hk.M hab.1 hab.2)
 rw [hk.Cl, hk.Ml] at EP
 have HQ := see_bd s.C s.M ((rg s a + n) % 65536) true hab.1
 have HRl := Lib.hid (show a.toNat < s.R.length by have := hk.Rl; omega)
 have HRb := Lib.hid (show b.toNat < s.R.length by have := hk.Rl; omega)
 have HMl := Lib.hid hk.Ml
 have HRL := Lib.hid hk.Rl
 have hra : 0 ≤ rg s a ∧ rg s a < 65536 := okB_true (rg_ok hk a)
 generalize hq : see s.C s.M ((rg s a + n) % 65536) true = q at *
 clear hq
 obtain ⟨x, hx⟩ : ∃ x, x = rg s a := ⟨_, rfl⟩
 obtain ⟨y, hy⟩ : ∃ y, y = rg s b := ⟨_, rfl⟩
 obtain ⟨m, hm⟩ : ∃ m, m = mm s q := ⟨_, rfl⟩
 have HX := Lib.hid (show s.R.getD a.toNat 0 = x from hx.symm)
 have HYY := Lib.hid (show s.R.getD b.toNat 0 = y from hy.symm)
 have HM := Lib.hid (show s.M.getD q.toNat 0 = m from hm.symm)
 rw [← hx] at EP hra hab
 clear hx hy hm ca cb ra ho hi hk
 go_enter Tryd.func86, Tryd.ntmps86
 go_wp2_with fail
 refine wp_gen (fun v => Lo v u00.heap.size s gr gc gm cr cc cm 10 d a b f n e ∧ But [gr, gc, gm] u00 v) ⟨⟨?_, ?_, ?_, ?_, ?_, ?_⟩, ?_⟩ ?_
 ·(repeat with_reducible first | assumption | exact Box4.new _ _ _ _ _ _ _ (by first | rfl | simp | (simp; omega)) | refine Box4.alloc ?_ _ | refine Box4.drew ?_ | refine Box4.drewN ?_ _ | refine Box4.other ?_ _ _ _ (by omega))
 ·(repeat with_reducible first | assumption | exact Box.new6 _ _ _ _ _ _ _ _ _ (by first | rfl | simp | (simp; omega)) | refine Box.alloc ?_ _ | refine Box.drew ?_ | refine Box.drewN ?_ _ | refine Box.other ?_ _ _ _ (by omega))
 ·(repeat with_reducible first | assumption | exact Box7.new _ _ _ _ (by first | rfl | simp | (simp; omega)) | exact Box7.newv _ _ _ _ _ _ _ _ _ _ (by first | rfl | simp | (simp; omega)) | refine Box7.alloc ?_ _ | refine Box7.drew ?_ | refine Box7.drewN ?_ _ | refine Box7.other ?_ _ _ _ (by omega))
 ·(repeat with_reducible first | assumption | exact Box4.new _ _ _ _ _ _ _ (by first | rfl | simp | (simp; omega)) | refine Box4.alloc ?_ _ | refine Box4.drew ?_ | refine Box4.drewN ?_ _ | refine Box4.other ?_ _ _ _ (by omega))
 ·(repeat with_reducible first | assumption | exact Box7.new _ _ _ _ (by first | rfl | simp | (simp; omega)) | exact Box7.newv _ _ _ _ _ _ _ _ _ _ (by first | rfl | simp | (simp; omega)) | refine Box7.alloc ?_ _ | refine Box7.drew ?_ | refine Box7.drewN ?_ _ | refine Box7.other ?_ _ _ _ (by omega))
 ·(repeat with_reducible first | refine Own.alloc ?_ _ | refine Own.drew ?_ | refine Own.drewN ?_ _ | refine Own.other ?_ _ _ _ (by omega) (by omega) (by omega))
  exact HO0.out
 ·(repeat with_reducible first | exact But.refl _ _ | assumption | refine But.alloc ?_ _ | refine But.drew ?_ | refine But.drewN ?_ _ | refine But.set ?_ _ _ _ (by first | (left; simp; done) | (right; simp; done) | (right; omega) | (right; simp; omega)))
 simp only [Nat.add_assoc, Nat.reduceAdd]
 rintro v ⟨lo, hB⟩
 have HLo := Lib.hid lo
 have HBt := Lib.hid hB
 have hsz := hB.size
 have ca := lo.O.R.cel a.toNat HRl.out
 have cb := lo.O.R.cel b.toNat HRb.out
 rw [HX.out] at ca
 rw [HYY.out] at cb
 obtain ⟨⟨g1, s0, s1, s2, s3, S0, S1, S2, S3⟩, ⟨i0, i1, i2, i3, i4, i5⟩, ⟨g5, e0, e1, e2, e3, e4, e5, e6, E0, E1, E2, E3, E4, E5, E6⟩, g6, g7, g8⟩ := lo
 clear hB g1 g5 g6 g7 g8
 go_quiet ((go_at_call 110; refine quiet_mine (spec_l1Wrap _ _)))
 refine wp_seq_gen (fun v => Lo v u00.heap.size s gr gc gm cr cc cm 10 d a b f n e ∧ But [gr, gc, gm] u00 v) ⟨?_, ?_⟩ ?_
 ·obtain ⟨q1, q2, q3, q4, q5, q6⟩ := HLo.out
  exact ⟨q1.drewN _, q2.drewN _, q3.drewN _, q4.drewN _, q5.drewN _, q6.drewN _⟩
 ·exact HBt.out.drewN _
 clear s0 s1 s2 s3 S0 S1 S2 S3 i0 i1 i2 i3 i4 i5 e0 e1 e2 e3 e4 e5 e6 E0 E1 E2 E3 E4 E5 E6 ca cb hsz
 clear HLo HBt
 clear v
 rintro v1 ⟨lo, hB⟩
 have HLo := Lib.hid lo
 have HBt := Lib.hid hB
 have hsz := hB.size
 have ca := lo.O.R.cel a.toNat HRl.out
 have cb := lo.O.R.cel b.toNat HRb.out
 rw [HX.out] at ca
 rw [HYY.out] at cb
 obtain ⟨⟨g1, s0, s1, s2, s3, S0, S1, S2, S3⟩, ⟨i0, i1, i2, i3, i4, i5⟩, ⟨g5, e0, e1, e2, e3, e4, e5, e6, E0, E1, E2, E3, E4, E5, E6⟩, g6, g7, g8⟩ := lo
 clear hB g1 g5 g6 g7 g8
 go_wp2_with fail
 refine (EP.out v1 HLo.out.O).mono ?_
 rintro e' w' ⟨rfl, rfl⟩
 go_wp2_with fail
 refine wp_gen (fun v => Lo v u00.heap.size s gr gc gm cr cc cm 10 d a b f n { e with why := 4 } ∧ But [gr, gc, gm] u00 v) ⟨⟨?_, ?_, ?_, ?_, ?_, ?_⟩, ?_⟩ ?_
 ·have q1 := HLo.out.S
  (repeat with_reducible first | assumption | exact Box4.new _ _ _ _ _ _ _ (by first | rfl | simp | (simp; omega)) | refine Box4.alloc ?_ _ | refine Box4.drew ?_ | refine Box4.drewN ?_ _ | refine Box4.other ?_ _ _ _ (by omega))
 ·have q1 := HLo.out.C
  (repeat with_reducible first | assumption | exact Box.new6 _ _ _ _ _ _ _ _ _ (by first | rfl | simp | (simp; omega)) | refine Box.alloc ?_ _ | refine Box.drew ?_ | refine Box.drewN ?_ _ | refine Box.other ?_ _ _ _ (by omega))
 ·have q1 := HLo.out.E
  exact q1.set2 4
 ·have q1 := HLo.out.Z
  (repeat with_reducible first | assumption | exact Box4.new _ _ _ _ _ _ _ (by first | rfl | simp | (simp; omega)) | refine Box4.alloc ?_ _ | refine Box4.drew ?_ | refine Box4.drewN ?_ _ | refine Box4.other ?_ _ _ _ (by omega))
 ·have q1 := HLo.out.Y
  (repeat with_reducible first | assumption | exact Box7.new _ _ _ _ (by first | rfl | simp | (simp; omega)) | exact Box7.newv _ _ _ _ _ _ _ _ _ _ (by first | rfl | simp | (simp; omega)) | refine Box7.alloc ?_ _ | refine Box7.drew ?_ | refine Box7.drewN ?_ _ | refine Box7.other ?_ _ _ _ (by omega))
 ·have q1 := HLo.out.O
  (repeat with_reducible first | refine Own.alloc ?_ _ | refine Own.drew ?_ | refine Own.drewN ?_ _ | refine Own.other ?_ _ _ _ (by omega) (by omega) (by omega))
  exact q1
 ·have hB := HBt.out
  (repeat with_reducible first | exact But.refl _ _ | assumption | refine But.alloc ?_ _ | refine But.drew ?_ | refine But.drewN ?_ _ | refine But.set ?_ _ _ _ (by first | (left; simp; done) | (right; simp; done) | (right; omega) | (right; simp; omega)))
 clear s0 s1 s2 s3 S0 S1 S2 S3 i0 i1 i2 i3 i4 i5 e0 e1 e2 e3 e4 e5 e6 E0 E1 E2 E3 E4 E5 E6 ca cb hsz
 clear HLo HBt
 clear v1
 rintro v0 ⟨lo, hB⟩
 have HLo := Lib.hid lo
 have HBt := Lib.hid hB
 have hsz := hB.size
 obtain ⟨⟨g1, s0, s1, s2, s3, S0, S1, S2, S3⟩, ⟨i0, i1, i2, i3, i4, i5⟩, ⟨g5, e0, e1, e2, e3, e4, e5, e6, E0, E1, E2, E3, E4, E5, E6⟩, g6, g7, g8⟩ := lo
 clear hB g1 g5 g6 g7 g8
 have HS := Lib.hid HLo.out.S
 have HE := Lib.hid HLo.out.E
 have HZ := Lib.hid HLo.out.Z
 have HY := Lib.hid HLo.out.Y
 have HO := Lib.hid HLo.out.O
 clear s0 s1 s2 s3 S0 S1 S2 S3 i0 i1 i2 i3 i4 i5 e0 e1 e2 e3 e4 e5 e6 E0 E1 E2 E3 E4 E5 E6 hsz
 clear HLo
 refine wp_region_rows 91 6 [gc, u00.heap.size + 3] (fun i => if i = 3 then [gc] else if i = 5 then [u00.heap.size + 3] else []) lb2_in (fun i => false) (fun i v u => match i with | 0 => v = .agg #[.int .i64 s.pc, .slice (some ⟨gr, 0, none⟩) 8 cr, .slice (some ⟨gc, 0, none⟩) 5 cc, .slice (some ⟨gm, 0, none⟩) 256 cm] | 1 => v = .pointer (some ⟨u00.heap.size + 2, 2, none⟩) | 2 => v = .int .i64 4 | 3 => v = .agg #[.int .i64 8, .slice (some ⟨gr, 0, none⟩) 8 cr, .slice (some ⟨gc, 0, none⟩) 5 cc, .slice (some ⟨gm, 0, none⟩) 256 cm] ∧ Own u gr gc gm (stopS s 4) | 4 => v = .agg #[.int .i64 ({ e with why := 4 }).pc, .int .i64 ({ e with why := 4 }).w, .int .i64 ({ e with why := 4 }).why, .int .i64 ({ e with why := 4 }).d, .int .i64 ({ e with why := 4 }).v, .int .i64 ({ e with why := 4 }).ad, .int .i64 ({ e with why := 4 }).dt] | 5 => v = undef ∧ Box4 u (u00.heap.size + 3) (.int .i64 8) (.slice (some ⟨gr, 0, none⟩) 8 cr) (.slice (some ⟨gc, 0, none⟩) 5 cc) (.slice (some ⟨gm, 0, none⟩) 256 cm) | _ => True) ?mono (by kernel_rfl) (by kernel_rfl) rfl (by kernel_rfl) (by kernel_rfl) (by decide) ?step ?fin
 case mono =>
  intro i j v u u' hi hij hdj hsz h hB
  rcases j with _ | _ | _ | _ | _ | _ | j
  ·exact h
  ·exact h
  ·exact h
  ·refine ⟨h.1, ?_⟩
   have hB' : But [u00.heap.size + 3] u u' := hB.mono (fun k hk _ => lb2_out i hij k hk)
   exact h.2.but hB' (by simp; omega) (by simp; omega) (by simp; omega)
  ·exact h
  ·refine ⟨h.1, ?_⟩
   have hB' : But [gc] u u' := hB.mono (fun k hk _ => lb2_out' i hij k hk)
   exact h.2.but hB' (by simp; omega)
  ·trivial
 case step =>
  intro i o ho hiz
  rcases i with _ | _ | _ | _ | _ | _ | _ | i
  ·clear hiz
   cases ho
   intro act u hB hL hdep hap hnw
   replace hB := hB [gc, u00.heap.size + 3] (fun j _ k hk => lb2_in j k hk)
   have x3 := out_val hL (k := 3) (by kernel_rfl) rfl rfl
   clear hdep hL hap hnw
   have Bx := HS.out.but hB (by simp; try omega)
   obtain ⟨lt, c0, c1, c2, c3, _, _, _, _⟩ := Bx
   refine wpOp_step rfl (fun K hK => ?_)
   go_simp
   exact hK _ _ ⟨_, rfl, (fun h => by cases h), rfl, But.refl _ _, (fun h => by cases h)⟩
  ·clear hiz
   cases ho
   intro act u hB hL hdep hap hnw
   replace hB := hB [gc, u00.heap.size + 3] (fun j _ k hk => lb2_in j k hk)
   have x5 := out_val hL (k := 5) (by kernel_rfl) rfl rfl
   clear hdep hL hap hnw
   refine wpOp_step rfl (fun K hK => ?_)
   go_simp
   exact hK _ _ ⟨_, rfl, (fun h => by cases h), rfl, But.refl _ _, (fun h => by cases h)⟩
  ·clear hiz
   cases ho
   intro act u hB hL hdep hap hnw
   replace hB := hB [gc, u00.heap.size + 3] (fun j _ k hk => lb2_in j k hk)
   have e1 : act.tmps.getD 38 undef = _ := hdep { on := 1, ground := .data } (by simp) rfl _ rfl
   clear hdep hL hap hnw
   have Bx := HE.out.but hB (by simp; try omega)
   obtain ⟨lt, c0, c1, c2, c3, c4, c5, c6, _, _, _, _, _, _, _⟩ := Bx
   refine wpOp_step rfl (fun K hK => ?_)
   go_simp
   exact hK _ _ ⟨_, rfl, (fun h => by cases h), rfl, But.refl _ _, (fun h => by cases h)⟩
  ·clear hiz
   cases ho
   intro act u hB hL hdep hap hnw
   replace hB := hB [u00.heap.size + 3] lb2_out
   have e0 : act.tmps.getD 37 undef = _ := hdep { on := 0, ground := .data } (by simp) rfl _ rfl
   have e2 : act.tmps.getD 39 undef = _ := hdep { on := 2, ground := .data } (by simp) rfl _ rfl
   have hdf := Lib.hid (show act.defers = [] from hL.1)
   clear hdep hL hap hnw
   refine wpOp_step rfl (fun K hK => ?_)
   go_simp
   refine (spec_l4Stop s gr gc gm cr cc cm 4 u (HO.out.but hB (by simp; omega) (by simp; omega) (by simp; omega)) HCl.out HC3.out.1 HC3.out.2).mono ?_
   rintro e u' ⟨rfl, ho', hB'⟩
   go_simp
   exact hK _ _ ⟨_, rfl, (fun h => by cases h), ⟨rfl, ho'⟩, hB', (fun h => by cases h)⟩
  ·clear hiz
   cases ho
   intro act u hB hL hdep hap hnw
   replace hB := hB [gc, u00.heap.size + 3] (fun j _ k hk => lb2_in j k hk)
   have x5 := out_val hL (k := 5) (by kernel_rfl) rfl rfl
   clear hdep hL hap hnw
   have Bx := HE.out.but hB (by simp; try omega)
   obtain ⟨lt, c0, c1, c2, c3, c4, c5, c6, _, _, _, _, _, _, _⟩ := Bx
   refine wpOp_step rfl (fun K hK => ?_)
   go_simp
   exact hK _ _ ⟨_, rfl, (fun h => by cases h), rfl, But.refl _ _, (fun h => by cases h)⟩
  ·clear hiz
   cases ho
   intro act u hB hL hdep hap hnw
   replace hB := hB [gc] lb2_out'
   obtain ⟨h3, ow⟩ := hdep { on := 3, ground := .data } (by simp) rfl _ rfl
   have e3 : act.tmps.getD 40 undef = .agg #[.int .i64 8, .slice (some ⟨gr, 0, none⟩) 8 cr, .slice (some ⟨gc, 0, none⟩) 5 cc, .slice (some ⟨gm, 0, none⟩) 256 cm] := h3
   have x6 := out_val hL (k := 6) (by kernel_rfl) rfl rfl
   clear ow
   clear hdep hL hap hnw h3
   have Bz0 := HZ.out.but hB (by simp; try omega)
   have Bz1 := Bz0
   obtain ⟨lt, c0, c1, c2, c3, f0, f1, f2, f3⟩ := Bz1
   refine wpOp_step rfl (fun K hK => ?_)
   go_simp
   exact hK _ _ ⟨undef, rfl, (fun _ => rfl), ⟨rfl, Bz0.set (.int .i64 8) (.slice (some ⟨gr, 0, none⟩) 8 cr) (.slice (some ⟨gc, 0, none⟩) 5 cc) (.slice (some ⟨gm, 0, none⟩) 256 cm)⟩, (But.refl _ _).set4 (u00.heap.size + 3) _ _ _ _ (.inl (by simp)), (fun h => by cases h)⟩
  ·exact absurd rfl hiz
  ·exact absurd ho (by simp)
 case fin =>
  intro act u hB hL hsf hap hnw
  have d4 := hsf 4 _ rfl (by decide)
  have d5 := hsf 5 _ rfl (by decide)
  have d3 := hsf 3 _ rfl (by decide)
  obtain ⟨ysl, ha, hy⟩ := hL.puts [37, 38, 39, 40, 41] (by kernel_rfl)
  have e4 : ysl 41 = _ := (hy 41).symm.trans d4
  obtain ⟨h5, Bz⟩ := d5
  obtain ⟨h3, ow⟩ := d3
  have e3 : ysl 40 = .agg #[.int .i64 8, .slice (some ⟨gr, 0, none⟩) 8 cr, .slice (some ⟨gc, 0, none⟩) 5 cc, .slice (some ⟨gm, 0, none⟩) 256 cm] := (hy 40).symm.trans h3
  clear hL hsf hy hap hnw d4 h3
  simp only [List.foldl, List.setIfInBounds_toArray, List.set_cons_succ, List.set_cons_zero, e4, e3] at ha
  subst ha
  clear e4 e3
  have ow1 : Own u gr gc gm (stopS s 4) := ow
  have Bz1 := Bz
  obtain ⟨_, z0, z1, z2, z3, _, _, _, _⟩ := Bz1
  have By := HY.out.but hB (by simp; try omega)
  have By1 := By
  obtain ⟨yl, y0, y1, y2, y3, y4, y5, y6, x0, x1, x2, x3, x4, x5, x6⟩ := By1
  have hB2 : But [gr, gc, gm] u00 u := HBt.out.trans2 hB (fun k hk => by simp at hk ⊢; omega)
  refine wpOp_step rfl (fun K hK => ?_)
  go_simp
  refine hK _ _ ?_
  refine wp_seq_gen (fun t => Own t gr gc gm (stopS s 4) ∧ Box4 t (u00.heap.size + 3) (.int .i64 8) (.slice (some ⟨gr, 0, none⟩) 8 cr) (.slice (some ⟨gc, 0, none⟩) 5 cc) (.slice (some ⟨gm, 0, none⟩) 256 cm) ∧ Box7 t (u00.heap.size + 4) ({ e with why := 4 }) ∧ But [gr, gc, gm] u00 t) ⟨?_, ?_, ?_, ?_⟩ ?_
  ·(repeat with_reducible first | refine Own.alloc ?_ _ | refine Own.drew ?_ | refine Own.drewN ?_ _ | refine Own.other ?_ _ _ _ (by omega) (by omega) (by omega))
   exact ow1
  ·(repeat with_reducible first | assumption | exact Box4.new _ _ _ _ _ _ _ (by first | rfl | simp | (simp; omega)) | refine Box4.alloc ?_ _ | refine Box4.drew ?_ | refine Box4.drewN ?_ _ | refine Box4.other ?_ _ _ _ (by omega))
  ·exact ((((((By.set0 _).set1 _).set2 _).set3 _).set4 _).set5 _).set6 _
  ·(repeat with_reducible first | exact But.refl _ _ | assumption | refine But.alloc ?_ _ | refine But.drew ?_ | refine But.drewN ?_ _ | refine But.set ?_ _ _ _ (by first | (left; simp; done) | (right; simp; done) | (right; omega) | (right; simp; omega)))
  clear z0 z1 z2 z3 y0 y1 y2 y3 y4 y5 y6 x0 x1 x2 x3 x4 x5 x6 By Bz ow1 hB2 hB yl
  rintro t ⟨ow2, bz, by', hB2⟩
  obtain ⟨_, z0, z1, z2, z3, _, _, _, _⟩ := bz
  obtain ⟨_, y0, y1, y2, y3, y4, y5, y6, _, _, _, _, _, _, _⟩ := by'
  go_wp2
  refine bodyPost_ret (v := .tuple #[.agg #[.int .i64 8, .slice (some ⟨gr, 0, none⟩) 8 cr, .slice (some ⟨gc, 0, none⟩) 5 cc, .slice (some ⟨gm, 0, none⟩) 256 cm], .agg #[.int .i64 ({ e with why := 4 }).pc, .int .i64 ({ e with why := 4 }).w, .int .i64 ({ e with why := 4 }).why, .int .i64 ({ e with why := 4 }).d, .int .i64 ({ e with why := 4 }).v, .int .i64 ({ e with why := 4 }).ad, .int .i64 ({ e with why := 4 }).dt]]) (by simp [results, Tryd.results86, go_sem, z0, z1, z2, z3, y0, y1, y2, y3, y4, y5, y6]) rfl ?_
  exact ⟨rfl, ow2, hB2⟩

end Go.Proofs.YtbjapncfgancoaaDoor
