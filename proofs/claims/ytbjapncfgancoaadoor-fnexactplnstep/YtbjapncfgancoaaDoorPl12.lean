/- The model's l4Do. -/
import Derived.Test.YtbjapncfgancoaaDoorPl11
namespace Go.Proofs.YtbjapncfgancoaaDoor
open Go.RowKit
set_option linter.unusedVariables false
set_option linter.unusedSimpArgs false
set_option maxRecDepth 8000 in
set_option maxHeartbeats 4000000 in
theorem spec_Do_by3 (s s' : St) (e e' : Ev) (gr gc gm cr cc cm : Nat) (d a b f n : Int) (u00 : World) (ho : Own u00 gr gc gm s)
  (C : ∀ v, Own v gr gc gm s → Calls Tryd.prog 86 #[.agg #[.int .i64 s.pc, .slice (some ⟨gr, 0, none⟩) 8 cr, .slice (some ⟨gc, 0, none⟩) 5 cc, .slice (some ⟨gm, 0, none⟩) 256 cm], .agg #[.int .i64 3, .int .i64 d, .int .i64 a, .int .i64 b, .int .i64 f, .int .i64 n], .agg #[.int .i64 (e).pc, .int .i64 (e).w, .int .i64 (e).why, .int .i64 (e).d, .int .i64 (e).v, .int .i64 (e).ad, .int .i64 (e).dt]] v (MP s' e' gr gc gm cr cc cm v)) :
  Calls Tryd.prog 71 #[.agg #[.int .i64 s.pc, .slice (some ⟨gr, 0, none⟩) 8 cr, .slice (some ⟨gc, 0, none⟩) 5 cc, .slice (some ⟨gm, 0, none⟩) 256 cm], .agg #[.int .i64 3, .int .i64 d, .int .i64 a, .int .i64 b, .int .i64 f, .int .i64 n], .agg #[.int .i64 (e).pc, .int .i64 (e).w, .int .i64 (e).why, .int .i64 (e).d, .int .i64 (e).v, .int .i64 (e).ad, .int .i64 (e).dt]] u00 (MP s' e' gr gc gm cr cc cm u00) := by
 have lr := ho.R.lt
 have lc := ho.C.lt
 have lm := ho.M.lt
 have HO0 := Lib.hid ho
 have HCC := Lib.hid C
 clear ho C
 go_enter Tryd.func71, Tryd.ntmps71
 go_wp2_with fail
 refine calls_gen (fun v => Lo v u00.heap.size s gr gc gm cr cc cm 3 d a b f n e ∧ But [gr, gc, gm] u00 v) ⟨⟨?_, ?_, ?_, ?_, ?_, ?_⟩, ?_⟩ ?_
 ·(repeat with_reducible first | assumption | exact Box4.new _ _ _ _ _ _ _ (by first | rfl | simp | (simp; omega)) | refine Box4.alloc ?_ _ | refine Box4.drew ?_ | refine Box4.drewN ?_ _ | refine Box4.other ?_ _ _ _ (by omega))
 ·(repeat with_reducible first | assumption | exact Box.new6 _ _ _ _ _ _ _ _ _ (by first | rfl | simp | (simp; omega)) | refine Box.alloc ?_ _ | refine Box.drew ?_ | refine Box.drewN ?_ _ | refine Box.other ?_ _ _ _ (by omega))
 ·(repeat with_reducible first | assumption | exact Box7.new _ _ _ _ (by first | rfl | simp | (simp; omega)) | exact Box7.newv _ _ _ _ _ _ _ _ _ _ (by first | rfl | simp | (simp; omega)) | refine Box7.alloc ?_ _ | refine Box7.drew ?_ | refine Box7.drewN ?_ _ | refine Box7.other ?_ _ _ _ (by omega))
 ·(repeat with_reducible first | assumption | exact Box4.new _ _ _ _ _ _ _ (by first | rfl | simp | (simp; omega)) | refine Box4.alloc ?_ _ | refine Box4.drew ?_ | refine Box4.drewN ?_ _ | refine Box4.other ?_ _ _ _ (by omega))
 ·(repeat with_reducible first | assumption | exact Box7.new _ _ _ _ (by first | rfl | simp | (simp; omega)) | exact Box7.newv _ _ _ _ _ _ _ _ _ _ (by first | rfl | simp | (simp; omega)) | refine Box7.alloc ?_ _ | refine Box7.drew ?_ | refine Box7.drewN ?_ _ | refine Box7.other ?_ _ _ _ (by omega))
 ·(repeat with_reducible first | refine Own.alloc ?_ _ | refine Own.drew ?_ | refine Own.drewN ?_ _ | refine Own.other ?_ _ _ _ (by omega) (by omega) (by omega))
  exact HO0.out
 ·(repeat with_reducible first | exact But.refl _ _ | assumption | refine But.alloc ?_ _ | refine But.drew ?_ | refine But.drewN ?_ _ | refine But.set ?_ _ _ _ (by first | (left; simp; done) | (right; simp; done) | (right; omega) | (right; simp; omega)))
 simp only [Nat.add_assoc, Nat.reduceAdd]
 rintro v ⟨lo, hB⟩
 refine (HCC.out v lo.O).mono ?_
 rintro r v1 ⟨rfl, ho', hB'⟩
 have hsz := hB.size
 refine wp_seq_gen2 (fun w => Own w gr gc gm s' ∧ Box4 w (u00.heap.size + 3) (.int .i64 0) (.slice none 0 0) (.slice none 0 0) (.slice none 0 0) ∧ Box7 w (u00.heap.size + 4) ev00 ∧ But [gr, gc, gm] u00 w) ⟨ho', lo.Z.but hB' (by simp; omega), lo.Y.but hB' (by simp; omega), hB.trans hB'⟩ ?_
 clear lo hB ho' hB' hsz
 clear v v1
 rintro t ⟨ow, bz, by', hB⟩
 have HOw := Lib.hid ow
 have HBt := Lib.hid hB
 obtain ⟨zl, z0, z1, z2, z3, y0, y1, y2, y3⟩ := bz
 obtain ⟨yl, w0, w1, w2, w3, w4, w5, w6, x0, x1, x2, x3, x4, x5, x6⟩ := by'
 clear ow hB
 go_wp2
 refine bodyPost_ret (v := .tuple #[.agg #[.int .i64 s'.pc, .slice (some ⟨gr, 0, none⟩) 8 cr, .slice (some ⟨gc, 0, none⟩) 5 cc, .slice (some ⟨gm, 0, none⟩) 256 cm], .agg #[.int .i64 (e').pc, .int .i64 (e').w, .int .i64 (e').why, .int .i64 (e').d, .int .i64 (e').v, .int .i64 (e').ad, .int .i64 (e').dt]]) (by simp [results, Tryd.results71, go_sem, z0, z1, z2, z3, w0, w1, w2, w3, w4, w5, w6]) rfl ⟨rfl, ?_, ?_⟩
 ·have ow := HOw.out
  (repeat with_reducible first | refine Own.alloc ?_ _ | refine Own.drew ?_ | refine Own.drewN ?_ _ | refine Own.other ?_ _ _ _ (by omega) (by omega) (by omega))
  exact ow
 ·have hB := HBt.out
  (repeat with_reducible first | exact But.refl _ _ | assumption | refine But.alloc ?_ _ | refine But.drew ?_ | refine But.drewN ?_ _ | refine But.set ?_ _ _ _ (by first | (left; simp; done) | (right; simp; done) | (right; omega) | (right; simp; omega)))
set_option maxRecDepth 8000 in
set_option maxHeartbeats 4000000 in
theorem spec_Do_by4 (s s' : St) (e e' : Ev) (gr gc gm cr cc cm : Nat) (d a b f n : Int) (u00 : World) (ho : Own u00 gr gc gm s)
  (C : ∀ v, Own v gr gc gm s → Calls Tryd.prog 86 #[.agg #[.int .i64 s.pc, .slice (some ⟨gr, 0, none⟩) 8 cr, .slice (some ⟨gc, 0, none⟩) 5 cc, .slice (some ⟨gm, 0, none⟩) 256 cm], .agg #[.int .i64 4, .int .i64 d, .int .i64 a, .int .i64 b, .int .i64 f, .int .i64 n], .agg #[.int .i64 (e).pc, .int .i64 (e).w, .int .i64 (e).why, .int .i64 (e).d, .int .i64 (e).v, .int .i64 (e).ad, .int .i64 (e).dt]] v (MP s' e' gr gc gm cr cc cm v)) :
  Calls Tryd.prog 71 #[.agg #[.int .i64 s.pc, .slice (some ⟨gr, 0, none⟩) 8 cr, .slice (some ⟨gc, 0, none⟩) 5 cc, .slice (some ⟨gm, 0, none⟩) 256 cm], .agg #[.int .i64 4, .int .i64 d, .int .i64 a, .int .i64 b, .int .i64 f, .int .i64 n], .agg #[.int .i64 (e).pc, .int .i64 (e).w, .int .i64 (e).why, .int .i64 (e).d, .int .i64 (e).v, .int .i64 (e).ad, .int .i64 (e).dt]] u00 (MP s' e' gr gc gm cr cc cm u00) := by
 have lr := ho.R.lt
 have lc := ho.C.lt
 have lm := ho.M.lt
 have HO0 := Lib.hid ho
 have HCC := Lib.hid C
 clear ho C
 go_enter Tryd.func71, Tryd.ntmps71
 go_wp2_with fail
 refine calls_gen (fun v => Lo v u00.heap.size s gr gc gm cr cc cm 4 d a b f n e ∧ But [gr, gc, gm] u00 v) ⟨⟨?_, ?_, ?_, ?_, ?_, ?_⟩, ?_⟩ ?_
 ·(repeat with_reducible first | assumption | exact Box4.new _ _ _ _ _ _ _ (by first | rfl | simp | (simp; omega)) | refine Box4.alloc ?_ _ | refine Box4.drew ?_ | refine Box4.drewN ?_ _ | refine Box4.other ?_ _ _ _ (by omega))
 ·(repeat with_reducible first | assumption | exact Box.new6 _ _ _ _ _ _ _ _ _ (by first | rfl | simp | (simp; omega)) | refine Box.alloc ?_ _ | refine Box.drew ?_ | refine Box.drewN ?_ _ | refine Box.other ?_ _ _ _ (by omega))
 ·(repeat with_reducible first | assumption | exact Box7.new _ _ _ _ (by first | rfl | simp | (simp; omega)) | exact Box7.newv _ _ _ _ _ _ _ _ _ _ (by first | rfl | simp | (simp; omega)) | refine Box7.alloc ?_ _ | refine Box7.drew ?_ | refine Box7.drewN ?_ _ | refine Box7.other ?_ _ _ _ (by omega))
 ·(repeat with_reducible first | assumption | exact Box4.new _ _ _ _ _ _ _ (by first | rfl | simp | (simp; omega)) | refine Box4.alloc ?_ _ | refine Box4.drew ?_ | refine Box4.drewN ?_ _ | refine Box4.other ?_ _ _ _ (by omega))
 ·(repeat with_reducible first | assumption | exact Box7.new _ _ _ _ (by first | rfl | simp | (simp; omega)) | exact Box7.newv _ _ _ _ _ _ _ _ _ _ (by first | rfl | simp | (simp; omega)) | refine Box7.alloc ?_ _ | refine Box7.drew ?_ | refine Box7.drewN ?_ _ | refine Box7.other ?_ _ _ _ (by omega))
 ·(repeat with_reducible first | refine Own.alloc ?_ _ | refine Own.drew ?_ | refine Own.drewN ?_ _ | refine Own.other ?_ _ _ _ (by omega) (by omega) (by omega))
  exact HO0.out
 ·(repeat with_reducible first | exact But.refl _ _ | assumption | refine But.alloc ?_ _ | refine But.drew ?_ | refine But.drewN ?_ _ | refine But.set ?_ _ _ _ (by first | (left; simp; done) | (right; simp; done) | (right; omega) | (right; simp; omega)))
 simp only [Nat.add_assoc, Nat.reduceAdd]
 rintro v ⟨lo, hB⟩
 refine (HCC.out v lo.O).mono ?_
 rintro r v1 ⟨rfl, ho', hB'⟩
 have hsz := hB.size
 refine wp_seq_gen2 (fun w => Own w gr gc gm s' ∧ Box4 w (u00.heap.size + 3) (.int .i64 0) (.slice none 0 0) (.slice none 0 0) (.slice none 0 0) ∧ Box7 w (u00.heap.size + 4) ev00 ∧ But [gr, gc, gm] u00 w) ⟨ho', lo.Z.but hB' (by simp; omega), lo.Y.but hB' (by simp; omega), hB.trans hB'⟩ ?_
 clear lo hB ho' hB' hsz
 clear v v1
 rintro t ⟨ow, bz, by', hB⟩
 have HOw := Lib.hid ow
 have HBt := Lib.hid hB
 obtain ⟨zl, z0, z1, z2, z3, y0, y1, y2, y3⟩ := bz
 obtain ⟨yl, w0, w1, w2, w3, w4, w5, w6, x0, x1, x2, x3, x4, x5, x6⟩ := by'
 clear ow hB
 go_wp2
 refine bodyPost_ret (v := .tuple #[.agg #[.int .i64 s'.pc, .slice (some ⟨gr, 0, none⟩) 8 cr, .slice (some ⟨gc, 0, none⟩) 5 cc, .slice (some ⟨gm, 0, none⟩) 256 cm], .agg #[.int .i64 (e').pc, .int .i64 (e').w, .int .i64 (e').why, .int .i64 (e').d, .int .i64 (e').v, .int .i64 (e').ad, .int .i64 (e').dt]]) (by simp [results, Tryd.results71, go_sem, z0, z1, z2, z3, w0, w1, w2, w3, w4, w5, w6]) rfl ⟨rfl, ?_, ?_⟩
 ·have ow := HOw.out
  (repeat with_reducible first | refine Own.alloc ?_ _ | refine Own.drew ?_ | refine Own.drewN ?_ _ | refine Own.other ?_ _ _ _ (by omega) (by omega) (by omega))
  exact ow
 ·have hB := HBt.out
  (repeat with_reducible first | exact But.refl _ _ | assumption | refine But.alloc ?_ _ | refine But.drew ?_ | refine But.drewN ?_ _ | refine But.set ?_ _ _ _ (by first | (left; simp; done) | (right; simp; done) | (right; omega) | (right; simp; omega)))
set_option maxRecDepth 8000 in
set_option maxHeartbeats 4000000 in
theorem spec_Do_by10 (s s' : St) (e e' : Ev) (gr gc gm cr cc cm : Nat) (d a b f n : Int) (u00 : World) (ho : Own u00 gr gc gm s)
  (C : ∀ v, Own v gr gc gm s → Calls Tryd.prog 86 #[.agg #[.int .i64 s.pc, .slice (some ⟨gr, 0, none⟩) 8 cr, .slice (some ⟨gc, 0, none⟩) 5 cc, .slice (some ⟨gm, 0, none⟩) 256 cm], .agg #[.int .i64 10, .int .i64 d, .int .i64 a, .int .i64 b, .int .i64 f, .int .i64 n], .agg #[.int .i64 (e).pc, .int .i64 (e).w, .int .i64 (e).why, .int .i64 (e).d, .int .i64 (e).v, .int .i64 (e).ad, .int .i64 (e).dt]] v (MP s' e' gr gc gm cr cc cm v)) :
  Calls Tryd.prog 71 #[.agg #[.int .i64 s.pc, .slice (some ⟨gr, 0, none⟩) 8 cr, .slice (some ⟨gc, 0, none⟩) 5 cc, .slice (some ⟨gm, 0, none⟩) 256 cm], .agg #[.int .i64 10, .int .i64 d, .int .i64 a, .int .i64 b, .int .i64 f, .int .i64 n], .agg #[.int .i64 (e).pc, .int .i64 (e).w, .int .i64 (e).why, .int .i64 (e).d, .int .i64 (e).v, .int .i64 (e).ad, .int .i64 (e).dt]] u00 (MP s' e' gr gc gm cr cc cm u00) := by
 have lr := ho.R.lt
 have lc := ho.C.lt
 have lm := ho.M.lt
 have HO0 := Lib.hid ho
 have HCC := Lib.hid C
 clear ho C
 go_enter Tryd.func71, Tryd.ntmps71
 go_wp2_with fail
 refine calls_gen (fun v => Lo v u00.heap.size s gr gc gm cr cc cm 10 d a b f n e ∧ But [gr, gc, gm] u00 v) ⟨⟨?_, ?_, ?_, ?_, ?_, ?_⟩, ?_⟩ ?_
 ·(repeat with_reducible first | assumption | exact Box4.new _ _ _ _ _ _ _ (by first | rfl | simp | (simp; omega)) | refine Box4.alloc ?_ _ | refine Box4.drew ?_ | refine Box4.drewN ?_ _ | refine Box4.other ?_ _ _ _ (by omega))
 ·(repeat with_reducible first | assumption | exact Box.new6 _ _ _ _ _ _ _ _ _ (by first | rfl | simp | (simp; omega)) | refine Box.alloc ?_ _ | refine Box.drew ?_ | refine Box.drewN ?_ _ | refine Box.other ?_ _ _ _ (by omega))
 ·(repeat with_reducible first | assumption | exact Box7.new _ _ _ _ (by first | rfl | simp | (simp; omega)) | exact Box7.newv _ _ _ _ _ _ _ _ _ _ (by first | rfl | simp | (simp; omega)) | refine Box7.alloc ?_ _ | refine Box7.drew ?_ | refine Box7.drewN ?_ _ | refine Box7.other ?_ _ _ _ (by omega))
 ·(repeat with_reducible first | assumption | exact Box4.new _ _ _ _ _ _ _ (by first | rfl | simp | (simp; omega)) | refine Box4.alloc ?_ _ | refine Box4.drew ?_ | refine Box4.drewN ?_ _ | refine Box4.other ?_ _ _ _ (by omega))
 ·(repeat with_reducible first | assumption | exact Box7.new _ _ _ _ (by first | rfl | simp | (simp; omega)) | exact Box7.newv _ _ _ _ _ _ _ _ _ _ (by first | rfl | simp | (simp; omega)) | refine Box7.alloc ?_ _ | refine Box7.drew ?_ | refine Box7.drewN ?_ _ | refine Box7.other ?_ _ _ _ (by omega))
 ·(repeat with_reducible first | refine Own.alloc ?_ _ | refine Own.drew ?_ | refine Own.drewN ?_ _ | refine Own.other ?_ _ _ _ (by omega) (by omega) (by omega))
  exact HO0.out
 ·(repeat with_reducible first | exact But.refl _ _ | assumption | refine But.alloc ?_ _ | refine But.drew ?_ | refine But.drewN ?_ _ | refine But.set ?_ _ _ _ (by first | (left; simp; done) | (right; simp; done) | (right; omega) | (right; simp; omega)))
 simp only [Nat.add_assoc, Nat.reduceAdd]
 rintro v ⟨lo, hB⟩
 refine (HCC.out v lo.O).mono ?_
 rintro r v1 ⟨rfl, ho', hB'⟩
 have hsz := hB.size
 refine wp_seq_gen2 (fun w => Own w gr gc gm s' ∧ Box4 w (u00.heap.size + 3) (.int .i64 0) (.slice none 0 0) (.slice none 0 0) (.slice none 0 0) ∧ Box7 w (u00.heap.size + 4) ev00 ∧ But [gr, gc, gm] u00 w) ⟨ho', lo.Z.but hB' (by simp; omega), lo.Y.but hB' (by simp; omega), hB.trans hB'⟩ ?_
 clear lo hB ho' hB' hsz
 clear v v1
 rintro t ⟨ow, bz, by', hB⟩
 have HOw := Lib.hid ow
 have HBt := Lib.hid hB
 obtain ⟨zl, z0, z1, z2, z3, y0, y1, y2, y3⟩ := bz
 obtain ⟨yl, w0, w1, w2, w3, w4, w5, w6, x0, x1, x2, x3, x4, x5, x6⟩ := by'
 clear ow hB
 go_wp2
 refine bodyPost_ret (v := .tuple #[.agg #[.int .i64 s'.pc, .slice (some ⟨gr, 0, none⟩) 8 cr, .slice (some ⟨gc, 0, none⟩) 5 cc, .slice (some ⟨gm, 0, none⟩) 256 cm], .agg #[.int .i64 (e').pc, .int .i64 (e').w, .int .i64 (e').why, .int .i64 (e').d, .int .i64 (e').v, .int .i64 (e').ad, .int .i64 (e').dt]]) (by simp [results, Tryd.results71, go_sem, z0, z1, z2, z3, w0, w1, w2, w3, w4, w5, w6]) rfl ⟨rfl, ?_, ?_⟩
 ·have ow := HOw.out
  (repeat with_reducible first | refine Own.alloc ?_ _ | refine Own.drew ?_ | refine Own.drewN ?_ _ | refine Own.other ?_ _ _ _ (by omega) (by omega) (by omega))
  exact ow
 ·have hB := HBt.out
  (repeat with_reducible first | exact But.refl _ _ | assumption | refine But.alloc ?_ _ | refine But.drew ?_ | refine But.drewN ?_ _ | refine But.set ?_ _ _ _ (by first | (left; simp; done) | (right; simp; done) | (right; omega) | (right; simp; omega)))
set_option maxRecDepth 8000 in
set_option maxHeartbeats 4000000 in
theorem spec_Do_by13 (s s' : St) (e e' : Ev) (gr gc gm cr cc cm : Nat) (d a b f n : Int) (u00 : World) (ho : Own u00 gr gc gm s)
  (C : ∀ v, Own v gr gc gm s → Calls Tryd.prog 87 #[.agg #[.int .i64 s.pc, .slice (some ⟨gr, 0, none⟩) 8 cr, .slice (some ⟨gc, 0, none⟩) 5 cc, .slice (some ⟨gm, 0, none⟩) 256 cm], .agg #[.int .i64 13, .int .i64 d, .int .i64 a, .int .i64 b, .int .i64 f, .int .i64 n], .agg #[.int .i64 (e).pc, .int .i64 (e).w, .int .i64 (e).why, .int .i64 (e).d, .int .i64 (e).v, .int .i64 (e).ad, .int .i64 (e).dt]] v (MP s' e' gr gc gm cr cc cm v)) :
  Calls Tryd.prog 71 #[.agg #[.int .i64 s.pc, .slice (some ⟨gr, 0, none⟩) 8 cr, .slice (some ⟨gc, 0, none⟩) 5 cc, .slice (some ⟨gm, 0, none⟩) 256 cm], .agg #[.int .i64 13, .int .i64 d, .int .i64 a, .int .i64 b, .int .i64 f, .int .i64 n], .agg #[.int .i64 (e).pc, .int .i64 (e).w, .int .i64 (e).why, .int .i64 (e).d, .int .i64 (e).v, .int .i64 (e).ad, .int .i64 (e).dt]] u00 (MP s' e' gr gc gm cr cc cm u00) := by
 have lr := ho.R.lt
 have lc := ho.C.lt
 have lm := ho.M.lt
 have HO0 := Lib.hid ho
 have HCC := Lib.hid C
 clear ho C
 go_enter Tryd.func71, Tryd.ntmps71
 go_wp2_with fail
 refine calls_gen (fun v => Lo v u00.heap.size s gr gc gm cr cc cm 13 d a b f n e ∧ But [gr, gc, gm] u00 v) ⟨⟨?_, ?_, ?_, ?_, ?_, ?_⟩, ?_⟩ ?_
 ·(repeat with_reducible first | assumption | exact Box4.new _ _ _ _ _ _ _ (by first | rfl | simp | (simp; omega)) | refine Box4.alloc ?_ _ | refine Box4.drew ?_ | refine Box4.drewN ?_ _ | refine Box4.other ?_ _ _ _ (by omega))
 ·(repeat with_reducible first | assumption | exact Box.new6 _ _ _ _ _ _ _ _ _ (by first | rfl | simp | (simp; omega)) | refine Box.alloc ?_ _ | refine Box.drew ?_ | refine Box.drewN ?_ _ | refine Box.other ?_ _ _ _ (by omega))
 ·(repeat with_reducible first | assumption | exact Box7.new _ _ _ _ (by first | rfl | simp | (simp; omega)) | exact Box7.newv _ _ _ _ _ _ _ _ _ _ (by first | rfl | simp | (simp; omega)) | refine Box7.alloc ?_ _ | refine Box7.drew ?_ | refine Box7.drewN ?_ _ | refine Box7.other ?_ _ _ _ (by omega))
 ·(repeat with_reducible first | assumption | exact Box4.new _ _ _ _ _ _ _ (by first | rfl | simp | (simp; omega)) | refine Box4.alloc ?_ _ | refine Box4.drew ?_ | refine Box4.drewN ?_ _ | refine Box4.other ?_ _ _ _ (by omega))
 ·(repeat with_reducible first | assumption | exact Box7.new _ _ _ _ (by first | rfl | simp | (simp; omega)) | exact Box7.newv _ _ _ _ _ _ _ _ _ _ (by first | rfl | simp | (simp; omega)) | refine Box7.alloc ?_ _ | refine Box7.drew ?_ | refine Box7.drewN ?_ _ | refine Box7.other ?_ _ _ _ (by omega))
 ·(repeat with_reducible first | refine Own.alloc ?_ _ | refine Own.drew ?_ | refine Own.drewN ?_ _ | refine Own.other ?_ _ _ _ (by omega) (by omega) (by omega))
  exact HO0.out
 ·(repeat with_reducible first | exact But.refl _ _ | assumption | refine But.alloc ?_ _ | refine But.drew ?_ | refine But.drewN ?_ _ | refine But.set ?_ _ _ _ (by first | (left; simp; done) | (right; simp; done) | (right; omega) | (right; simp; omega)))
 simp only [Nat.add_assoc, Nat.reduceAdd]
 rintro v ⟨lo, hB⟩
 refine (HCC.out v lo.O).mono ?_
 rintro r v1 ⟨rfl, ho', hB'⟩
 have hsz := hB.size
 refine wp_seq_gen2 (fun w => Own w gr gc gm s' ∧ Box4 w (u00.heap.size + 3) (.int .i64 0) (.slice none 0 0) (.slice none 0 0) (.slice none 0 0) ∧ Box7 w (u00.heap.size + 4) ev00 ∧ But [gr, gc, gm] u00 w) ⟨ho', lo.Z.but hB' (by simp; omega), lo.Y.but hB' (by simp; omega), hB.trans hB'⟩ ?_
 clear lo hB ho' hB' hsz
 clear v v1
 rintro t ⟨ow, bz, by', hB⟩
 have HOw := Lib.hid ow
 have HBt := Lib.hid hB
 obtain ⟨zl, z0, z1, z2, z3, y0, y1, y2, y3⟩ := bz
 obtain ⟨yl, w0, w1, w2, w3, w4, w5, w6, x0, x1, x2, x3, x4, x5, x6⟩ := by'
 clear ow hB
 go_wp2
 refine bodyPost_ret (v := .tuple #[.agg #[.int .i64 s'.pc, .slice (some ⟨gr, 0, none⟩) 8 cr, .slice (some ⟨gc, 0, none⟩) 5 cc, .slice (some ⟨gm, 0, none⟩) 256 cm], .agg #[.int .i64 (e').pc, .int .i64 (e').w, .int .i64 (e').why, .int .i64 (e').d, .int .i64 (e').v, .int .i64 (e').ad, .int .i64 (e').dt]]) (by simp [results, Tryd.results71, go_sem, z0, z1, z2, z3, w0, w1, w2, w3, w4, w5, w6]) rfl ⟨rfl, ?_, ?_⟩
 ·have ow := HOw.out
  (repeat with_reducible first | refine Own.alloc ?_ _ | refine Own.drew ?_ | refine Own.drewN ?_ _ | refine Own.other ?_ _ _ _ (by omega) (by omega) (by omega))
  exact ow
 ·have hB := HBt.out
  (repeat with_reducible first | exact But.refl _ _ | assumption | refine But.alloc ?_ _ | refine But.drew ?_ | refine But.drewN ?_ _ | refine But.set ?_ _ _ _ (by first | (left; simp; done) | (right; simp; done) | (right; omega) | (right; simp; omega)))
set_option maxRecDepth 8000 in
set_option maxHeartbeats 4000000 in
theorem spec_Do_by14 (s s' : St) (e e' : Ev) (gr gc gm cr cc cm : Nat) (d a b f n : Int) (u00 : World) (ho : Own u00 gr gc gm s)
  (C : ∀ v, Own v gr gc gm s → Calls Tryd.prog 87 #[.agg #[.int .i64 s.pc, .slice (some ⟨gr, 0, none⟩) 8 cr, .slice (some ⟨gc, 0, none⟩) 5 cc, .slice (some ⟨gm, 0, none⟩) 256 cm], .agg #[.int .i64 14, .int .i64 d, .int .i64 a, .int .i64 b, .int .i64 f, .int .i64 n], .agg #[.int .i64 (e).pc, .int .i64 (e).w, .int .i64 (e).why, .int .i64 (e).d, .int .i64 (e).v, .int .i64 (e).ad, .int .i64 (e).dt]] v (MP s' e' gr gc gm cr cc cm v)) :
  Calls Tryd.prog 71 #[.agg #[.int .i64 s.pc, .slice (some ⟨gr, 0, none⟩) 8 cr, .slice (some ⟨gc, 0, none⟩) 5 cc, .slice (some ⟨gm, 0, none⟩) 256 cm], .agg #[.int .i64 14, .int .i64 d, .int .i64 a, .int .i64 b, .int .i64 f, .int .i64 n], .agg #[.int .i64 (e).pc, .int .i64 (e).w, .int .i64 (e).why, .int .i64 (e).d, .int .i64 (e).v, .int .i64 (e).ad, .int .i64 (e).dt]] u00 (MP s' e' gr gc gm cr cc cm u00) := by
 have lr := ho.R.lt
 have lc := ho.C.lt
 have lm := ho.M.lt
 have HO0 := Lib.hid ho
 have HCC := Lib.hid C
 clear ho C
 go_enter Tryd.func71, Tryd.ntmps71
 go_wp2_with fail
 refine calls_gen (fun v => Lo v u00.heap.size s gr gc gm cr cc cm 14 d a b f n e ∧ But [gr, gc, gm] u00 v) ⟨⟨?_, ?_, ?_, ?_, ?_, ?_⟩, ?_⟩ ?_
 ·(repeat with_reducible first | assumption | exact Box4.new _ _ _ _ _ _ _ (by first | rfl | simp | (simp; omega)) | refine Box4.alloc ?_ _ | refine Box4.drew ?_ | refine Box4.drewN ?_ _ | refine Box4.other ?_ _ _ _ (by omega))
 ·(repeat with_reducible first | assumption | exact Box.new6 _ _ _ _ _ _ _ _ _ (by first | rfl | simp | (simp; omega)) | refine Box.alloc ?_ _ | refine Box.drew ?_ | refine Box.drewN ?_ _ | refine Box.other ?_ _ _ _ (by omega))
 ·(repeat with_reducible first | assumption | exact Box7.new _ _ _ _ (by first | rfl | simp | (simp; omega)) | exact Box7.newv _ _ _ _ _ _ _ _ _ _ (by first | rfl | simp | (simp; omega)) | refine Box7.alloc ?_ _ | refine Box7.drew ?_ | refine Box7.drewN ?_ _ | refine Box7.other ?_ _ _ _ (by omega))
 ·(repeat with_reducible first | assumption | exact Box4.new _ _ _ _ _ _ _ (by first | rfl | simp | (simp; omega)) | refine Box4.alloc ?_ _ | refine Box4.drew ?_ | refine Box4.drewN ?_ _ | refine Box4.other ?_ _ _ _ (by omega))
 ·(repeat with_reducible first | assumption | exact Box7.new _ _ _ _ (by first | rfl | simp | (simp; omega)) | exact Box7.newv _ _ _ _ _ _ _ _ _ _ (by first | rfl | simp | (simp; omega)) | refine Box7.alloc ?_ _ | refine Box7.drew ?_ | refine Box7.drewN ?_ _ | refine Box7.other ?_ _ _ _ (by omega))
 ·(repeat with_reducible first | refine Own.alloc ?_ _ | refine Own.drew ?_ | refine Own.drewN ?_ _ | refine Own.other ?_ _ _ _ (by omega) (by omega) (by omega))
  exact HO0.out
 ·(repeat with_reducible first | exact But.refl _ _ | assumption | refine But.alloc ?_ _ | refine But.drew ?_ | refine But.drewN ?_ _ | refine But.set ?_ _ _ _ (by first | (left; simp; done) | (right; simp; done) | (right; omega) | (right; simp; omega)))
 simp only [Nat.add_assoc, Nat.reduceAdd]
 rintro v ⟨lo, hB⟩
 refine (HCC.out v lo.O).mono ?_
 rintro r v1 ⟨rfl, ho', hB'⟩
 have hsz := hB.size
 refine wp_seq_gen2 (fun w => Own w gr gc gm s' ∧ Box4 w (u00.heap.size + 3) (.int .i64 0) (.slice none 0 0) (.slice none 0 0) (.slice none 0 0) ∧ Box7 w (u00.heap.size + 4) ev00 ∧ But [gr, gc, gm] u00 w) ⟨ho', lo.Z.but hB' (by simp; omega), lo.Y.but hB' (by simp; omega), hB.trans hB'⟩ ?_
 clear lo hB ho' hB' hsz
 clear v v1
 rintro t ⟨ow, bz, by', hB⟩
 have HOw := Lib.hid ow
 have HBt := Lib.hid hB
 obtain ⟨zl, z0, z1, z2, z3, y0, y1, y2, y3⟩ := bz
 obtain ⟨yl, w0, w1, w2, w3, w4, w5, w6, x0, x1, x2, x3, x4, x5, x6⟩ := by'
 clear ow hB
 go_wp2
 refine bodyPost_ret (v := .tuple #[.agg #[.int .i64 s'.pc, .slice (some ⟨gr, 0, none⟩) 8 cr, .slice (some ⟨gc, 0, none⟩) 5 cc, .slice (some ⟨gm, 0, none⟩) 256 cm], .agg #[.int .i64 (e').pc, .int .i64 (e').w, .int .i64 (e').why, .int .i64 (e').d, .int .i64 (e').v, .int .i64 (e').ad, .int .i64 (e').dt]]) (by simp [results, Tryd.results71, go_sem, z0, z1, z2, z3, w0, w1, w2, w3, w4, w5, w6]) rfl ⟨rfl, ?_, ?_⟩
 ·have ow := HOw.out
  (repeat with_reducible first | refine Own.alloc ?_ _ | refine Own.drew ?_ | refine Own.drewN ?_ _ | refine Own.other ?_ _ _ _ (by omega) (by omega) (by omega))
  exact ow
 ·have hB := HBt.out
  (repeat with_reducible first | exact But.refl _ _ | assumption | refine But.alloc ?_ _ | refine But.drew ?_ | refine But.drewN ?_ _ | refine But.set ?_ _ _ _ (by first | (left; simp; done) | (right; simp; done) | (right; omega) | (right; simp; omega)))
set_option maxRecDepth 8000 in
set_option maxHeartbeats 4000000 in
theorem spec_Do_by15 (s s' : St) (e e' : Ev) (gr gc gm cr cc cm : Nat) (d a b f n : Int) (u00 : World) (ho : Own u00 gr gc gm s)
  (C : ∀ v, Own v gr gc gm s → Calls Tryd.prog 87 #[.agg #[.int .i64 s.pc, .slice (some ⟨gr, 0, none⟩) 8 cr, .slice (some ⟨gc, 0, none⟩) 5 cc, .slice (some ⟨gm, 0, none⟩) 256 cm], .agg #[.int .i64 15, .int .i64 d, .int .i64 a, .int .i64 b, .int .i64 f, .int .i64 n], .agg #[.int .i64 (e).pc, .int .i64 (e).w, .int .i64 (e).why, .int .i64 (e).d, .int .i64 (e).v, .int .i64 (e).ad, .int .i64 (e).dt]] v (MP s' e' gr gc gm cr cc cm v)) :
  Calls Tryd.prog 71 #[.agg #[.int .i64 s.pc, .slice (some ⟨gr, 0, none⟩) 8 cr, .slice (some ⟨gc, 0, none⟩) 5 cc, .slice (some ⟨gm, 0, none⟩) 256 cm], .agg #[.int .i64 15, .int .i64 d, .int .i64 a, .int .i64 b, .int .i64 f, .int .i64 n], .agg #[.int .i64 (e).pc, .int .i64 (e).w, .int .i64 (e).why, .int .i64 (e).d, .int .i64 (e).v, .int .i64 (e).ad, .int .i64 (e).dt]] u00 (MP s' e' gr gc gm cr cc cm u00) := by
 have lr := ho.R.lt
 have lc := ho.C.lt
 have lm := ho.M.lt
 have HO0 := Lib.hid ho
 have HCC := Lib.hid C
 clear ho C
 go_enter Tryd.func71, Tryd.ntmps71
 go_wp2_with fail
 refine calls_gen (fun v => Lo v u00.heap.size s gr gc gm cr cc cm 15 d a b f n e ∧ But [gr, gc, gm] u00 v) ⟨⟨?_, ?_, ?_, ?_, ?_, ?_⟩, ?_⟩ ?_
 ·(repeat with_reducible first | assumption | exact Box4.new _ _ _ _ _ _ _ (by first | rfl | simp | (simp; omega)) | refine Box4.alloc ?_ _ | refine Box4.drew ?_ | refine Box4.drewN ?_ _ | refine Box4.other ?_ _ _ _ (by omega))
 ·(repeat with_reducible first | assumption | exact Box.new6 _ _ _ _ _ _ _ _ _ (by first | rfl | simp | (simp; omega)) | refine Box.alloc ?_ _ | refine Box.drew ?_ | refine Box.drewN ?_ _ | refine Box.other ?_ _ _ _ (by omega))
 ·(repeat with_reducible first | assumption | exact Box7.new _ _ _ _ (by first | rfl | simp | (simp; omega)) | exact Box7.newv _ _ _ _ _ _ _ _ _ _ (by first | rfl | simp | (simp; omega)) | refine Box7.alloc ?_ _ | refine Box7.drew ?_ | refine Box7.drewN ?_ _ | refine Box7.other ?_ _ _ _ (by omega))
 ·(repeat with_reducible first | assumption | exact Box4.new _ _ _ _ _ _ _ (by first | rfl | simp | (simp; omega)) | refine Box4.alloc ?_ _ | refine Box4.drew ?_ | refine Box4.drewN ?_ _ | refine Box4.other ?_ _ _ _ (by omega))
 ·(repeat with_reducible first | assumption | exact Box7.new _ _ _ _ (by first | rfl | simp | (simp; omega)) | exact Box7.newv _ _ _ _ _ _ _ _ _ _ (by first | rfl | simp | (simp; omega)) | refine Box7.alloc ?_ _ | refine Box7.drew ?_ | refine Box7.drewN ?_ _ | refine Box7.other ?_ _ _ _ (by omega))
 ·(repeat with_reducible first | refine Own.alloc ?_ _ | refine Own.drew ?_ | refine Own.drewN ?_ _ | refine Own.other ?_ _ _ _ (by omega) (by omega) (by omega))
  exact HO0.out
 ·(repeat with_reducible first | exact But.refl _ _ | assumption | refine But.alloc ?_ _ | refine But.drew ?_ | refine But.drewN ?_ _ | refine But.set ?_ _ _ _ (by first | (left; simp; done) | (right; simp; done) | (right; omega) | (right; simp; omega)))
 simp only [Nat.add_assoc, Nat.reduceAdd]
 rintro v ⟨lo, hB⟩
 refine (HCC.out v lo.O).mono ?_
 rintro r v1 ⟨rfl, ho', hB'⟩
 have hsz := hB.size
 refine wp_seq_gen2 (fun w => Own w gr gc gm s' ∧ Box4 w (u00.heap.size + 3) (.int .i64 0) (.slice none 0 0) (.slice none 0 0) (.slice none 0 0) ∧ Box7 w (u00.heap.size + 4) ev00 ∧ But [gr, gc, gm] u00 w) ⟨ho', lo.Z.but hB' (by simp; omega), lo.Y.but hB' (by simp; omega), hB.trans hB'⟩ ?_
 clear lo hB ho' hB' hsz
 clear v v1
 rintro t ⟨ow, bz, by', hB⟩
 have HOw := Lib.hid ow
 have HBt := Lib.hid hB
 obtain ⟨zl, z0, z1, z2, z3, y0, y1, y2, y3⟩ := bz
 obtain ⟨yl, w0, w1, w2, w3, w4, w5, w6, x0, x1, x2, x3, x4, x5, x6⟩ := by'
 clear ow hB
 go_wp2
 refine bodyPost_ret (v := .tuple #[.agg #[.int .i64 s'.pc, .slice (some ⟨gr, 0, none⟩) 8 cr, .slice (some ⟨gc, 0, none⟩) 5 cc, .slice (some ⟨gm, 0, none⟩) 256 cm], .agg #[.int .i64 (e').pc, .int .i64 (e').w, .int .i64 (e').why, .int .i64 (e').d, .int .i64 (e').v, .int .i64 (e').ad, .int .i64 (e').dt]]) (by simp [results, Tryd.results71, go_sem, z0, z1, z2, z3, w0, w1, w2, w3, w4, w5, w6]) rfl ⟨rfl, ?_, ?_⟩
 ·have ow := HOw.out
  (repeat with_reducible first | refine Own.alloc ?_ _ | refine Own.drew ?_ | refine Own.drewN ?_ _ | refine Own.other ?_ _ _ _ (by omega) (by omega) (by omega))
  exact ow
 ·have hB := HBt.out
  (repeat with_reducible first | exact But.refl _ _ | assumption | refine But.alloc ?_ _ | refine But.drew ?_ | refine But.drewN ?_ _ | refine But.set ?_ _ _ _ (by first | (left; simp; done) | (right; simp; done) | (right; omega) | (right; simp; omega)))
set_option maxRecDepth 8000 in
set_option maxHeartbeats 4000000 in
theorem spec_Do_12 (s : St) (e : Ev) (gr gc gm cr cc cm : Nat) (d a b f n : Int) (u00 : World) (ho : Own u00 gr gc gm s) (hk : OkS s) (hi : iok 12 d a b f n = true)   :
  Calls Tryd.prog 71 #[.agg #[.int .i64 s.pc, .slice (some ⟨gr, 0, none⟩) 8 cr, .slice (some ⟨gc, 0, none⟩) 5 cc, .slice (some ⟨gm, 0, none⟩) 256 cm], .agg #[.int .i64 12, .int .i64 d, .int .i64 a, .int .i64 b, .int .i64 f, .int .i64 n], .agg #[.int .i64 (e).pc, .int .i64 (e).w, .int .i64 (e).why, .int .i64 (e).d, .int .i64 (e).v, .int .i64 (e).ad, .int .i64 (e).dt]] u00 (MP (stopS s (5 + 16 * n)) { e with why := 5 + 16 * n } gr gc gm cr cc cm u00) := by
 obtain ⟨⟨d0, d1⟩, ⟨a0, a1⟩, ⟨b0, b1⟩, ⟨f0, f1⟩, n0, n1⟩ := sok_bd (sok_of hi)
 have lr := ho.R.lt
 have lc := ho.C.lt
 have lm := ho.M.lt
 have HO0 := Lib.hid ho
 have HCl := Lib.hid hk.Cl
 have HRL := Lib.hid hk.Rl
 have HC3 := Lib.hid (And.intro (ok_get hk.C 3).1 hk.c3)
 have c3b := ok_get hk.C 3
 have hc4 := hk.c3
 have pb := okB_true hk.pc
 have a8 : a < 8 := by omega
 have HRl := Lib.hid (show a.toNat < s.R.length by have := hk.Rl; omega)
 obtain ⟨x, hx⟩ : ∃ x, x = rg s a := ⟨_, rfl⟩
 have xb : 0 ≤ x ∧ x < 65536 := by rw [hx]; exact okB_true (rg_ok hk a)
 have HX := Lib.hid (show s.R.getD a.toNat 0 = x from hx.symm)
 obtain ⟨t3, h3⟩ : ∃ t, t = s.C.getD 3 0 := ⟨_, rfl⟩
 obtain ⟨t0, h0⟩ : ∃ t, t = s.C.getD 0 0 := ⟨_, rfl⟩
 have H3 := Lib.hid h3.symm
 have H0 := Lib.hid h0.symm
 rw [← h3] at c3b hc4
 clear hx h3 h0 hi hk ho
 go_enter Tryd.func71, Tryd.ntmps71
 go_wp2_with fail
 refine wp_gen (fun v => Lo v u00.heap.size s gr gc gm cr cc cm 12 d a b f n { e with why := 5 + 16 * n } ∧ But [gr, gc, gm] u00 v) ⟨⟨?_, ?_, ?_, ?_, ?_, ?_⟩, ?_⟩ ?_
 ·(repeat with_reducible first | assumption | exact Box4.new _ _ _ _ _ _ _ (by first | rfl | simp | (simp; omega)) | refine Box4.alloc ?_ _ | refine Box4.drew ?_ | refine Box4.drewN ?_ _ | refine Box4.other ?_ _ _ _ (by omega))
 ·(repeat with_reducible first | assumption | exact Box.new6 _ _ _ _ _ _ _ _ _ (by first | rfl | simp | (simp; omega)) | refine Box.alloc ?_ _ | refine Box.drew ?_ | refine Box.drewN ?_ _ | refine Box.other ?_ _ _ _ (by omega))
 ·first | (exact Box7.newv _ _ _ _ _ _ _ _ _ _ (by simp)) | (repeat with_reducible first | assumption | exact Box7.new _ _ _ _ (by first | rfl | simp | (simp; omega)) | exact Box7.newv _ _ _ _ _ _ _ _ _ _ (by first | rfl | simp | (simp; omega)) | refine Box7.alloc ?_ _ | refine Box7.drew ?_ | refine Box7.drewN ?_ _ | refine Box7.other ?_ _ _ _ (by omega))
 ·(repeat with_reducible first | assumption | exact Box4.new _ _ _ _ _ _ _ (by first | rfl | simp | (simp; omega)) | refine Box4.alloc ?_ _ | refine Box4.drew ?_ | refine Box4.drewN ?_ _ | refine Box4.other ?_ _ _ _ (by omega))
 ·(repeat with_reducible first | assumption | exact Box7.new _ _ _ _ (by first | rfl | simp | (simp; omega)) | exact Box7.newv _ _ _ _ _ _ _ _ _ _ (by first | rfl | simp | (simp; omega)) | refine Box7.alloc ?_ _ | refine Box7.drew ?_ | refine Box7.drewN ?_ _ | refine Box7.other ?_ _ _ _ (by omega))
 ·(repeat with_reducible first | refine Own.alloc ?_ _ | refine Own.drew ?_ | refine Own.drewN ?_ _ | refine Own.other ?_ _ _ _ (by omega) (by omega) (by omega))
  exact HO0.out
 ·(repeat with_reducible first | exact But.refl _ _ | assumption | refine But.alloc ?_ _ | refine But.drew ?_ | refine But.drewN ?_ _ | refine But.set ?_ _ _ _ (by first | (left; simp; done) | (right; simp; done) | (right; omega) | (right; simp; omega)))
 simp only [Nat.add_assoc, Nat.reduceAdd]
 rintro v0 ⟨lo, hB⟩
 have HLo := Lib.hid lo
 have HBt := Lib.hid hB
 have hsz := hB.size
 obtain ⟨⟨g1, s0, s1, s2, s3, S0, S1, S2, S3⟩, ⟨i0, i1, i2, i3, i4, i5⟩, ⟨g5, e0, e1, e2, e3, e4, e5, e6, E0, E1, E2, E3, E4, E5, E6⟩, g6, g7, g8⟩ := lo
 clear hB g1 g5 g6 g7 g8
 have HS := Lib.hid HLo.out.S
 have HE := Lib.hid HLo.out.E
 have HZ := Lib.hid HLo.out.Z
 have HY := Lib.hid HLo.out.Y
 have HO := Lib.hid HLo.out.O
 clear s0 s1 s2 s3 S0 S1 S2 S3 i0 i1 i2 i3 i4 i5 e0 e1 e2 e3 e4 e5 e6 E0 E1 E2 E3 E4 E5 E6 hsz
 clear HLo
 refine wp_region_rows 80 6 [gc, u00.heap.size + 3] (fun i => if i = 3 then [gc] else if i = 5 then [u00.heap.size + 3] else []) lb2_in (fun i => false) (fun i v u => match i with | 0 => v = .agg #[.int .i64 s.pc, .slice (some ⟨gr, 0, none⟩) 8 cr, .slice (some ⟨gc, 0, none⟩) 5 cc, .slice (some ⟨gm, 0, none⟩) 256 cm] | 1 => v = .pointer (some ⟨u00.heap.size + 2, 2, none⟩) | 2 => v = .int .i64 (5 + 16 * n) | 3 => v = .agg #[.int .i64 8, .slice (some ⟨gr, 0, none⟩) 8 cr, .slice (some ⟨gc, 0, none⟩) 5 cc, .slice (some ⟨gm, 0, none⟩) 256 cm] ∧ Own u gr gc gm (stopS s (5 + 16 * n)) | 4 => v = .agg #[.int .i64 ({ e with why := 5 + 16 * n }).pc, .int .i64 ({ e with why := 5 + 16 * n }).w, .int .i64 ({ e with why := 5 + 16 * n }).why, .int .i64 ({ e with why := 5 + 16 * n }).d, .int .i64 ({ e with why := 5 + 16 * n }).v, .int .i64 ({ e with why := 5 + 16 * n }).ad, .int .i64 ({ e with why := 5 + 16 * n }).dt] | 5 => v = undef ∧ Box4 u (u00.heap.size + 3) (.int .i64 8) (.slice (some ⟨gr, 0, none⟩) 8 cr) (.slice (some ⟨gc, 0, none⟩) 5 cc) (.slice (some ⟨gm, 0, none⟩) 256 cm) | _ => True) ?mono (by kernel_rfl) (by kernel_rfl) rfl (by kernel_rfl) (by kernel_rfl) (by decide) ?step ?fin
 case mono =>
  intro i j v u u' hi hij hdj hsz h hB
  rcases j with _ | _ | _ | _ | _ | _ | j
  ·exact h
  ·exact h
  ·exact h
  ·refine ⟨h.1, ?_⟩
   have hB' : But [u00.heap.size + 3] u u' := hB.mono (fun k hk _ => lb2_out i hij k hk)
   exact h.2.but hB' (by simp; omega) (by simp; omega) (by simp; omega)
  ·exact h
  ·refine ⟨h.1, ?_⟩
   have hB' : But [gc] u u' := hB.mono (fun k hk _ => lb2_out' i hij k hk)
   exact h.2.but hB' (by simp; omega)
  ·trivial
 case step =>
  intro i o ho hiz
  rcases i with _ | _ | _ | _ | _ | _ | _ | i
  ·clear hiz
   cases ho
   intro act u hB hL hdep hap hnw
   replace hB := hB [gc, u00.heap.size + 3] (fun j _ k hk => lb2_in j k hk)
   have x3 := out_val hL (k := 3) (by kernel_rfl) rfl rfl
   clear hdep hL hap hnw
   have Bx := HS.out.but hB (by simp; try omega)
   obtain ⟨lt, c0, c1, c2, c3, _, _, _, _⟩ := Bx
   refine wpOp_step rfl (fun K hK => ?_)
   go_simp
   exact hK _ _ ⟨_, rfl, (fun h => by cases h), rfl, But.refl _ _, (fun h => by cases h)⟩
  ·clear hiz
   cases ho
   intro act u hB hL hdep hap hnw
   replace hB := hB [gc, u00.heap.size + 3] (fun j _ k hk => lb2_in j k hk)
   have x5 := out_val hL (k := 5) (by kernel_rfl) rfl rfl
   clear hdep hL hap hnw
   refine wpOp_step rfl (fun K hK => ?_)
   go_simp
   exact hK _ _ ⟨_, rfl, (fun h => by cases h), rfl, But.refl _ _, (fun h => by cases h)⟩
  ·clear hiz
   cases ho
   intro act u hB hL hdep hap hnw
   replace hB := hB [gc, u00.heap.size + 3] (fun j _ k hk => lb2_in j k hk)
   have e1 : act.tmps.getD 40 undef = _ := hdep { on := 1, ground := .data } (by simp) rfl _ rfl
   clear hdep hL hap hnw
   have Bx := HE.out.but hB (by simp; try omega)
   obtain ⟨lt, c0, c1, c2, c3, c4, c5, c6, _, _, _, _, _, _, _⟩ := Bx
   refine wpOp_step rfl (fun K hK => ?_)
   go_simp
   exact hK _ _ ⟨_, rfl, (fun h => by cases h), rfl, But.refl _ _, (fun h => by cases h)⟩
  ·clear hiz
   cases ho
   intro act u hB hL hdep hap hnw
   replace hB := hB [u00.heap.size + 3] lb2_out
   have e0 : act.tmps.getD 39 undef = _ := hdep { on := 0, ground := .data } (by simp) rfl _ rfl
   have e2 : act.tmps.getD 41 undef = _ := hdep { on := 2, ground := .data } (by simp) rfl _ rfl
   have hdf := Lib.hid (show act.defers = [] from hL.1)
   clear hdep hL hap hnw
   refine wpOp_step rfl (fun K hK => ?_)
   go_simp
   refine (spec_l4Stop s gr gc gm cr cc cm (5 + 16 * n) u (HO.out.but hB (by simp; omega) (by simp; omega) (by simp; omega)) HCl.out HC3.out.1 HC3.out.2).mono ?_
   rintro e u' ⟨rfl, ho', hB'⟩
   go_simp
   exact hK _ _ ⟨_, rfl, (fun h => by cases h), ⟨rfl, ho'⟩, hB', (fun h => by cases h)⟩
  ·clear hiz
   cases ho
   intro act u hB hL hdep hap hnw
   replace hB := hB [gc, u00.heap.size + 3] (fun j _ k hk => lb2_in j k hk)
   have x5 := out_val hL (k := 5) (by kernel_rfl) rfl rfl
   clear hdep hL hap hnw
   have Bx := HE.out.but hB (by simp; try omega)
   obtain ⟨lt, c0, c1, c2, c3, c4, c5, c6, _, _, _, _, _, _, _⟩ := Bx
   refine wpOp_step rfl (fun K hK => ?_)
   go_simp
   exact hK _ _ ⟨_, rfl, (fun h => by cases h), rfl, But.refl _ _, (fun h => by cases h)⟩
  ·clear hiz
   cases ho
   intro act u hB hL hdep hap hnw
   replace hB := hB [gc] lb2_out'
   obtain ⟨h3, ow⟩ := hdep { on := 3, ground := .data } (by simp) rfl _ rfl
   have e3 : act.tmps.getD 42 undef = .agg #[.int .i64 8, .slice (some ⟨gr, 0, none⟩) 8 cr, .slice (some ⟨gc, 0, none⟩) 5 cc, .slice (some ⟨gm, 0, none⟩) 256 cm] := h3
   have x6 := out_val hL (k := 6) (by kernel_rfl) rfl rfl
   clear ow
   clear hdep hL hap hnw h3
   have Bz0 := HZ.out.but hB (by simp; try omega)
   have Bz1 := Bz0
   obtain ⟨lt, c0, c1, c2, c3, f0, f1, f2, f3⟩ := Bz1
   refine wpOp_step rfl (fun K hK => ?_)
   go_simp
   exact hK _ _ ⟨undef, rfl, (fun _ => rfl), ⟨rfl, Bz0.set (.int .i64 8) (.slice (some ⟨gr, 0, none⟩) 8 cr) (.slice (some ⟨gc, 0, none⟩) 5 cc) (.slice (some ⟨gm, 0, none⟩) 256 cm)⟩, (But.refl _ _).set4 (u00.heap.size + 3) _ _ _ _ (.inl (by simp)), (fun h => by cases h)⟩
  ·exact absurd rfl hiz
  ·exact absurd ho (by simp)
 case fin =>
  intro act u hB hL hsf hap hnw
  have d4 := hsf 4 _ rfl (by decide)
  have d5 := hsf 5 _ rfl (by decide)
  have d3 := hsf 3 _ rfl (by decide)
  obtain ⟨ysl, ha, hy⟩ := hL.puts [39, 40, 41, 42, 43] (by kernel_rfl)
  have e4 : ysl 43 = _ := (hy 43).symm.trans d4
  obtain ⟨h5, Bz⟩ := d5
  obtain ⟨h3, ow⟩ := d3
  have e3 : ysl 42 = .agg #[.int .i64 8, .slice (some ⟨gr, 0, none⟩) 8 cr, .slice (some ⟨gc, 0, none⟩) 5 cc, .slice (some ⟨gm, 0, none⟩) 256 cm] := (hy 42).symm.trans h3
  clear hL hsf hy hap hnw d4 h3
  simp only [List.foldl, List.setIfInBounds_toArray, List.set_cons_succ, List.set_cons_zero, e4, e3] at ha
  subst ha
  clear e4 e3
  have ow1 : Own u gr gc gm (stopS s (5 + 16 * n)) := ow
  have Bz1 := Bz
  obtain ⟨_, z0, z1, z2, z3, _, _, _, _⟩ := Bz1
  have By := HY.out.but hB (by simp; try omega)
  have By1 := By
  obtain ⟨yl, y0, y1, y2, y3, y4, y5, y6, x0, x1, x2, x3, x4, x5, x6⟩ := By1
  have hB2 : But [gr, gc, gm] u00 u := HBt.out.trans2 hB (fun k hk => by simp at hk ⊢; omega)
  refine wpOp_step rfl (fun K hK => ?_)
  go_simp
  refine hK _ _ ?_
  refine wp_seq_gen (fun t => Own t gr gc gm (stopS s (5 + 16 * n)) ∧ Box4 t (u00.heap.size + 3) (.int .i64 8) (.slice (some ⟨gr, 0, none⟩) 8 cr) (.slice (some ⟨gc, 0, none⟩) 5 cc) (.slice (some ⟨gm, 0, none⟩) 256 cm) ∧ Box7 t (u00.heap.size + 4) ({ e with why := 5 + 16 * n }) ∧ But [gr, gc, gm] u00 t) ⟨?_, ?_, ?_, ?_⟩ ?_
  ·(repeat with_reducible first | refine Own.alloc ?_ _ | refine Own.drew ?_ | refine Own.drewN ?_ _ | refine Own.other ?_ _ _ _ (by omega) (by omega) (by omega))
   exact ow1
  ·(repeat with_reducible first | assumption | exact Box4.new _ _ _ _ _ _ _ (by first | rfl | simp | (simp; omega)) | refine Box4.alloc ?_ _ | refine Box4.drew ?_ | refine Box4.drewN ?_ _ | refine Box4.other ?_ _ _ _ (by omega))
  ·exact ((((((By.set0 _).set1 _).set2 _).set3 _).set4 _).set5 _).set6 _
  ·(repeat with_reducible first | exact But.refl _ _ | assumption | refine But.alloc ?_ _ | refine But.drew ?_ | refine But.drewN ?_ _ | refine But.set ?_ _ _ _ (by first | (left; simp; done) | (right; simp; done) | (right; omega) | (right; simp; omega)))
  clear z0 z1 z2 z3 y0 y1 y2 y3 y4 y5 y6 x0 x1 x2 x3 x4 x5 x6 By Bz ow1 hB2 hB yl
  rintro t ⟨ow2, bz, by', hB2⟩
  obtain ⟨_, z0, z1, z2, z3, _, _, _, _⟩ := bz
  obtain ⟨_, y0, y1, y2, y3, y4, y5, y6, _, _, _, _, _, _, _⟩ := by'
  go_wp2
  refine bodyPost_ret (v := .tuple #[.agg #[.int .i64 8, .slice (some ⟨gr, 0, none⟩) 8 cr, .slice (some ⟨gc, 0, none⟩) 5 cc, .slice (some ⟨gm, 0, none⟩) 256 cm], .agg #[.int .i64 ({ e with why := 5 + 16 * n }).pc, .int .i64 ({ e with why := 5 + 16 * n }).w, .int .i64 ({ e with why := 5 + 16 * n }).why, .int .i64 ({ e with why := 5 + 16 * n }).d, .int .i64 ({ e with why := 5 + 16 * n }).v, .int .i64 ({ e with why := 5 + 16 * n }).ad, .int .i64 ({ e with why := 5 + 16 * n }).dt]]) (by simp [results, Tryd.results71, go_sem, z0, z1, z2, z3, y0, y1, y2, y3, y4, y5, y6]) rfl ?_
  exact ⟨rfl, ow2, hB2⟩
set_option maxRecDepth 8000 in
set_option maxHeartbeats 4000000 in
theorem spec_Do_gen0 (s : St) (e : Ev) (gr gc gm cr cc cm : Nat) (k : Int) (d a b f n : Int) (u00 : World) (ho : Own u00 gr gc gm s) (hk : OkS s) (hi : iok k d a b f n = true) (hq3 : k ≠ 3) (hq4 : k ≠ 4) (hq10 : k ≠ 10) (hq13 : k ≠ 13) (hq14 : k ≠ 14) (hq15 : k ≠ 15) (hq12 : k ≠ 12) (hd : d = 0) :
  Calls Tryd.prog 71 #[.agg #[.int .i64 s.pc, .slice (some ⟨gr, 0, none⟩) 8 cr, .slice (some ⟨gc, 0, none⟩) 5 cc, .slice (some ⟨gm, 0, none⟩) 256 cm], .agg #[.int .i64 k, .int .i64 d, .int .i64 a, .int .i64 b, .int .i64 f, .int .i64 n], .agg #[.int .i64 (e).pc, .int .i64 (e).w, .int .i64 (e).why, .int .i64 (e).d, .int .i64 (e).v, .int .i64 (e).ad, .int .i64 (e).dt]] u00 (MP ⟨(nxV k n s.pc (rg s a) (rg s b) f).1, putR s.R d (nxV k n s.pc (rg s a) (rg s b) f).2, s.C, s.M⟩ e gr gc gm cr cc cm u00) := by
 obtain ⟨⟨d0, d1⟩, ⟨a0, a1⟩, ⟨b0, b1⟩, ⟨f0, f1⟩, n0, n1⟩ := sok_bd (sok_of hi)
 have lr := ho.R.lt
 have lc := ho.C.lt
 have lm := ho.M.lt
 have HO0 := Lib.hid ho
 have HCl := Lib.hid hk.Cl
 have HRL := Lib.hid hk.Rl
 have HC3 := Lib.hid (And.intro (ok_get hk.C 3).1 hk.c3)
 have c3b := ok_get hk.C 3
 have hc4 := hk.c3
 have pb := okB_true hk.pc
 have a8 : a < 8 := by omega
 have HRl := Lib.hid (show a.toNat < s.R.length by have := hk.Rl; omega)
 obtain ⟨x, hx⟩ : ∃ x, x = rg s a := ⟨_, rfl⟩
 have xb : 0 ≤ x ∧ x < 65536 := by rw [hx]; exact okB_true (rg_ok hk a)
 have HX := Lib.hid (show s.R.getD a.toNat 0 = x from hx.symm)
 obtain ⟨t3, h3⟩ : ∃ t, t = s.C.getD 3 0 := ⟨_, rfl⟩
 obtain ⟨t0, h0⟩ : ∃ t, t = s.C.getD 0 0 := ⟨_, rfl⟩
 have H3 := Lib.hid h3.symm
 have H0 := Lib.hid h0.symm
 rw [← h3] at c3b hc4
 have hkk := iok_k hi
 obtain ⟨y, hy⟩ : ∃ y, y = rg s b := ⟨_, rfl⟩
 have yb : 0 ≤ y ∧ y < 65536 := by rw [hy]; exact okB_true (rg_ok hk b)
 have HYY := Lib.hid (show s.R.getD b.toNat 0 = y from hy.symm)
 have HRb := Lib.hid (show b.toNat < s.R.length by have := hk.Rl; omega)
 have b8 : b < 8 := by omega
 rw [← hx, ← hy]
 have EN := Lib.hid (fun (v : World) => spec_l4Next k d a b f n s.pc x y v hkk n0 n1 pb.1 pb.2 xb.1 xb.2 yb.1 yb.2)
 generalize (nxV k n s.pc x y f).1 = q1 at *
 generalize (nxV k n s.pc x y f).2 = q2 at *
 have j3 : (k == 3) = false := by simpa using hq3
 have j4 : (k == 4) = false := by simpa using hq4
 have j10 : (k == 10) = false := by simpa using hq10
 have j13 : (k == 13) = false := by simpa using hq13
 have j14 : (k == 14) = false := by simpa using hq14
 have j15 : (k == 15) = false := by simpa using hq15
 have j12 : (k == 12) = false := by simpa using hq12
 clear hx hy h3 h0 hi hk ho hkk hq3 hq4 hq10 hq13 hq14 hq15 hq12
 subst hd
 have HPR := Lib.hid (show putR s.R 0 q2 = s.R from if_pos rfl)
 rw [HPR.out]
 go_enter Tryd.func71, Tryd.ntmps71
 go_wp2_with fail
 refine wp_gen (fun v => Lo v u00.heap.size s gr gc gm cr cc cm k 0 a b f n e ∧ But [gr, gc, gm] u00 v) ⟨⟨?_, ?_, ?_, ?_, ?_, ?_⟩, ?_⟩ ?_
 ·(repeat with_reducible first | assumption | exact Box4.new _ _ _ _ _ _ _ (by first | rfl | simp | (simp; omega)) | refine Box4.alloc ?_ _ | refine Box4.drew ?_ | refine Box4.drewN ?_ _ | refine Box4.other ?_ _ _ _ (by omega))
 ·(repeat with_reducible first | assumption | exact Box.new6 _ _ _ _ _ _ _ _ _ (by first | rfl | simp | (simp; omega)) | refine Box.alloc ?_ _ | refine Box.drew ?_ | refine Box.drewN ?_ _ | refine Box.other ?_ _ _ _ (by omega))
 ·(repeat with_reducible first | assumption | exact Box7.new _ _ _ _ (by first | rfl | simp | (simp; omega)) | exact Box7.newv _ _ _ _ _ _ _ _ _ _ (by first | rfl | simp | (simp; omega)) | refine Box7.alloc ?_ _ | refine Box7.drew ?_ | refine Box7.drewN ?_ _ | refine Box7.other ?_ _ _ _ (by omega))
 ·(repeat with_reducible first | assumption | exact Box4.new _ _ _ _ _ _ _ (by first | rfl | simp | (simp; omega)) | refine Box4.alloc ?_ _ | refine Box4.drew ?_ | refine Box4.drewN ?_ _ | refine Box4.other ?_ _ _ _ (by omega))
 ·(repeat with_reducible first | assumption | exact Box7.new _ _ _ _ (by first | rfl | simp | (simp; omega)) | exact Box7.newv _ _ _ _ _ _ _ _ _ _ (by first | rfl | simp | (simp; omega)) | refine Box7.alloc ?_ _ | refine Box7.drew ?_ | refine Box7.drewN ?_ _ | refine Box7.other ?_ _ _ _ (by omega))
 ·(repeat with_reducible first | refine Own.alloc ?_ _ | refine Own.drew ?_ | refine Own.drewN ?_ _ | refine Own.other ?_ _ _ _ (by omega) (by omega) (by omega))
  exact HO0.out
 ·(repeat with_reducible first | exact But.refl _ _ | assumption | refine But.alloc ?_ _ | refine But.drew ?_ | refine But.drewN ?_ _ | refine But.set ?_ _ _ _ (by first | (left; simp; done) | (right; simp; done) | (right; omega) | (right; simp; omega)))
 simp only [Nat.add_assoc, Nat.reduceAdd]
 rintro u0 ⟨lo, hB⟩
 have HLo := Lib.hid lo
 have HBt := Lib.hid hB
 have hsz := hB.size
 clear lo hB j3 j4 j10 j13 j14 j15 j12
 refine wp_region_plan 0 80 (fun _ u => Fr u0 u) (fun i v _ => v = ([.agg #[.int .i64 k, .int .i64 0, .int .i64 a, .int .i64 b, .int .i64 f, .int .i64 n], .pointer (some ⟨u00.heap.size, 0, none⟩), .int .i64 s.pc, .pointer (some ⟨u00.heap.size, 1, none⟩), .slice (some ⟨gr, 0, none⟩) 8 cr, .pointer (some ⟨u00.heap.size + 1, 2, none⟩), .int .i64 a, .pointer (some ⟨gr, a.toNat, none⟩), .int .i64 x, .pointer (some ⟨u00.heap.size, 1, none⟩), .slice (some ⟨gr, 0, none⟩) 8 cr, .pointer (some ⟨u00.heap.size + 1, 3, none⟩), .int .i64 b, .pointer (some ⟨gr, b.toNat, none⟩), .int .i64 y, .tuple #[.int .i64 q1, .int .i64 q2], .tuple #[.int .i64 q1, .int .i64 q2], .int .i64 q1, .int .i64 q2, .int .i64 q1, .int .i64 q2] : List Value).getD i undef) (by kernel_rfl) (by kernel_rfl) rfl (by kernel_rfl) (fun _ _ _ _ h _ => h) (Below.drew (Below.refl _ _)) ?step ?fin
 case step =>
  intro i o ho
  rcases i with _ | _ | _ | _ | _ | _ | _ | _ | _ | _ | _ | _ | _ | _ | _ | _ | _ | _ | _ | _ | _ | i
  ·cases ho
   intro fu act u hW hsz hL hdep
   obtain ⟨ysl, ha, hy⟩ := hL.puts [45, 46, 47, 48, 49, 50, 51, 52, 53, 54, 55, 56, 57, 58, 59, 60, 44, 61, 62, 8, 9] (by kernel_rfl)
   clear hdep hL hy
   simp only [List.foldl, List.setIfInBounds_toArray, List.set_cons_succ, List.set_cons_zero] at ha
   subst ha
   obtain ⟨c0, c1, c2, c3, c4, c5⟩ := HLo.out.C.fr hW
   refine wpOp_step rfl (fun K hK => ?_)
   go_simp
   exact hK _ _ ⟨_, rfl, (by first | rfl | simp), grown_refl _ _, hW⟩
  ·cases ho
   intro fu act u hW hsz hL hdep
   obtain ⟨ysl, ha, hy⟩ := hL.puts [45, 46, 47, 48, 49, 50, 51, 52, 53, 54, 55, 56, 57, 58, 59, 60, 44, 61, 62, 8, 9] (by kernel_rfl)
   clear hdep hL hy
   simp only [List.foldl, List.setIfInBounds_toArray, List.set_cons_succ, List.set_cons_zero] at ha
   subst ha
   refine wpOp_step rfl (fun K hK => ?_)
   go_simp
   exact hK _ _ ⟨_, rfl, (by first | rfl | simp), grown_refl _ _, hW⟩
  ·cases ho
   intro fu act u hW hsz hL hdep
   have d1 : _ = (.pointer (some ⟨u00.heap.size, 0, none⟩) : Value) := hdep { on := 1, ground := .data } (by simp) rfl _ rfl
   obtain ⟨ysl, ha, hy⟩ := hL.puts [45, 46, 47, 48, 49, 50, 51, 52, 53, 54, 55, 56, 57, 58, 59, 60, 44, 61, 62, 8, 9] (by kernel_rfl)
   have e1 : ysl 46 = (.pointer (some ⟨u00.heap.size, 0, none⟩) : Value) := (hy 46).symm.trans d1
   clear hdep hL hy d1
   simp only [List.foldl, List.setIfInBounds_toArray, List.set_cons_succ, List.set_cons_zero, e1] at ha
   subst ha
   clear e1
   obtain ⟨lt, c0, c1, c2, c3, _, _, _, _⟩ := HLo.out.S.fr hW
   refine wpOp_step rfl (fun K hK => ?_)
   go_simp
   exact hK _ _ ⟨_, rfl, (by first | rfl | simp), grown_refl _ _, hW⟩
  ·cases ho
   intro fu act u hW hsz hL hdep
   obtain ⟨ysl, ha, hy⟩ := hL.puts [45, 46, 47, 48, 49, 50, 51, 52, 53, 54, 55, 56, 57, 58, 59, 60, 44, 61, 62, 8, 9] (by kernel_rfl)
   clear hdep hL hy
   simp only [List.foldl, List.setIfInBounds_toArray, List.set_cons_succ, List.set_cons_zero] at ha
   subst ha
   refine wpOp_step rfl (fun K hK => ?_)
   go_simp
   exact hK _ _ ⟨_, rfl, (by first | rfl | simp), grown_refl _ _, hW⟩
  ·cases ho
   intro fu act u hW hsz hL hdep
   have d3 : _ = (.pointer (some ⟨u00.heap.size, 1, none⟩) : Value) := hdep { on := 3, ground := .data } (by simp) rfl _ rfl
   obtain ⟨ysl, ha, hy⟩ := hL.puts [45, 46, 47, 48, 49, 50, 51, 52, 53, 54, 55, 56, 57, 58, 59, 60, 44, 61, 62, 8, 9] (by kernel_rfl)
   have e3 : ysl 48 = (.pointer (some ⟨u00.heap.size, 1, none⟩) : Value) := (hy 48).symm.trans d3
   clear hdep hL hy d3
   simp only [List.foldl, List.setIfInBounds_toArray, List.set_cons_succ, List.set_cons_zero, e3] at ha
   subst ha
   clear e3
   obtain ⟨lt, c0, c1, c2, c3, _, _, _, _⟩ := HLo.out.S.fr hW
   refine wpOp_step rfl (fun K hK => ?_)
   go_simp
   exact hK _ _ ⟨_, rfl, (by first | rfl | simp), grown_refl _ _, hW⟩
  ·cases ho
   intro fu act u hW hsz hL hdep
   obtain ⟨ysl, ha, hy⟩ := hL.puts [45, 46, 47, 48, 49, 50, 51, 52, 53, 54, 55, 56, 57, 58, 59, 60, 44, 61, 62, 8, 9] (by kernel_rfl)
   clear hdep hL hy
   simp only [List.foldl, List.setIfInBounds_toArray, List.set_cons_succ, List.set_cons_zero] at ha
   subst ha
   refine wpOp_step rfl (fun K hK => ?_)
   go_simp
   exact hK _ _ ⟨_, rfl, (by first | rfl | simp), grown_refl _ _, hW⟩
  ·cases ho
   intro fu act u hW hsz hL hdep
   have d5 : _ = (.pointer (some ⟨u00.heap.size + 1, 2, none⟩) : Value) := hdep { on := 5, ground := .data } (by simp) rfl _ rfl
   obtain ⟨ysl, ha, hy⟩ := hL.puts [45, 46, 47, 48, 49, 50, 51, 52, 53, 54, 55, 56, 57, 58, 59, 60, 44, 61, 62, 8, 9] (by kernel_rfl)
   have e5 : ysl 50 = (.pointer (some ⟨u00.heap.size + 1, 2, none⟩) : Value) := (hy 50).symm.trans d5
   clear hdep hL hy d5
   simp only [List.foldl, List.setIfInBounds_toArray, List.set_cons_succ, List.set_cons_zero, e5] at ha
   subst ha
   clear e5
   obtain ⟨c0, c1, c2, c3, c4, c5⟩ := HLo.out.C.fr hW
   refine wpOp_step rfl (fun K hK => ?_)
   go_simp
   exact hK _ _ ⟨_, rfl, (by first | rfl | simp), grown_refl _ _, hW⟩
  ·cases ho
   intro fu act u hW hsz hL hdep
   have d4 : _ = (.slice (some ⟨gr, 0, none⟩) 8 cr : Value) := hdep { on := 4, ground := .data } (by simp) rfl _ rfl
   have d6 : _ = (.int .i64 a : Value) := hdep { on := 6, ground := .data } (by simp) rfl _ rfl
   obtain ⟨ysl, ha, hy⟩ := hL.puts [45, 46, 47, 48, 49, 50, 51, 52, 53, 54, 55, 56, 57, 58, 59, 60, 44, 61, 62, 8, 9] (by kernel_rfl)
   have e4 : ysl 49 = (.slice (some ⟨gr, 0, none⟩) 8 cr : Value) := (hy 49).symm.trans d4
   have e6 : ysl 51 = (.int .i64 a : Value) := (hy 51).symm.trans d6
   clear hdep hL hy d4 d6
   simp only [List.foldl, List.setIfInBounds_toArray, List.set_cons_succ, List.set_cons_zero, e4, e6] at ha
   subst ha
   clear e4 e6
   refine wpOp_step rfl (fun K hK => ?_)
   go_simp
   exact hK _ _ ⟨_, rfl, (by first | rfl | simp), grown_refl _ _, hW⟩
  ·cases ho
   intro fu act u hW hsz hL hdep
   have d7 : _ = (.pointer (some ⟨gr, a.toNat, none⟩) : Value) := hdep { on := 7, ground := .data } (by simp) rfl _ rfl
   obtain ⟨ysl, ha, hy⟩ := hL.puts [45, 46, 47, 48, 49, 50, 51, 52, 53, 54, 55, 56, 57, 58, 59, 60, 44, 61, 62, 8, 9] (by kernel_rfl)
   have e7 : ysl 52 = (.pointer (some ⟨gr, a.toNat, none⟩) : Value) := (hy 52).symm.trans d7
   clear hdep hL hy d7
   simp only [List.foldl, List.setIfInBounds_toArray, List.set_cons_succ, List.set_cons_zero, e7] at ha
   subst ha
   clear e7
   have ca := (HLo.out.O.fr hW).R.cel a.toNat HRl.out
   rw [HX.out] at ca
   refine wpOp_step rfl (fun K hK => ?_)
   go_simp
   exact hK _ _ ⟨_, rfl, (by first | rfl | simp), grown_refl _ _, hW⟩
  ·cases ho
   intro fu act u hW hsz hL hdep
   obtain ⟨ysl, ha, hy⟩ := hL.puts [45, 46, 47, 48, 49, 50, 51, 52, 53, 54, 55, 56, 57, 58, 59, 60, 44, 61, 62, 8, 9] (by kernel_rfl)
   clear hdep hL hy
   simp only [List.foldl, List.setIfInBounds_toArray, List.set_cons_succ, List.set_cons_zero] at ha
   subst ha
   refine wpOp_step rfl (fun K hK => ?_)
   go_simp
   exact hK _ _ ⟨_, rfl, (by first | rfl | simp), grown_refl _ _, hW⟩
  ·cases ho
   intro fu act u hW hsz hL hdep
   have d9 : _ = (.pointer (some ⟨u00.heap.size, 1, none⟩) : Value) := hdep { on := 9, ground := .data } (by simp) rfl _ rfl
   obtain ⟨ysl, ha, hy⟩ := hL.puts [45, 46, 47, 48, 49, 50, 51, 52, 53, 54, 55, 56, 57, 58, 59, 60, 44, 61, 62, 8, 9] (by kernel_rfl)
   have e9 : ysl 54 = (.pointer (some ⟨u00.heap.size, 1, none⟩) : Value) := (hy 54).symm.trans d9
   clear hdep hL hy d9
   simp only [List.foldl, List.setIfInBounds_toArray, List.set_cons_succ, List.set_cons_zero, e9] at ha
   subst ha
   clear e9
   obtain ⟨lt, c0, c1, c2, c3, _, _, _, _⟩ := HLo.out.S.fr hW
   refine wpOp_step rfl (fun K hK => ?_)
   go_simp
   exact hK _ _ ⟨_, rfl, (by first | rfl | simp), grown_refl _ _, hW⟩
  ·cases ho
   intro fu act u hW hsz hL hdep
   obtain ⟨ysl, ha, hy⟩ := hL.puts [45, 46, 47, 48, 49, 50, 51, 52, 53, 54, 55, 56, 57, 58, 59, 60, 44, 61, 62, 8, 9] (by kernel_rfl)
   clear hdep hL hy
   simp only [List.foldl, List.setIfInBounds_toArray, List.set_cons_succ, List.set_cons_zero] at ha
   subst ha
   refine wpOp_step rfl (fun K hK => ?_)
   go_simp
   exact hK _ _ ⟨_, rfl, (by first | rfl | simp), grown_refl _ _, hW⟩
  ·cases ho
   intro fu act u hW hsz hL hdep
   have d11 : _ = (.pointer (some ⟨u00.heap.size + 1, 3, none⟩) : Value) := hdep { on := 11, ground := .data } (by simp) rfl _ rfl
   obtain ⟨ysl, ha, hy⟩ := hL.puts [45, 46, 47, 48, 49, 50, 51, 52, 53, 54, 55, 56, 57, 58, 59, 60, 44, 61, 62, 8, 9] (by kernel_rfl)
   have e11 : ysl 56 = (.pointer (some ⟨u00.heap.size + 1, 3, none⟩) : Value) := (hy 56).symm.trans d11
   clear hdep hL hy d11
   simp only [List.foldl, List.setIfInBounds_toArray, List.set_cons_succ, List.set_cons_zero, e11] at ha
   subst ha
   clear e11
   obtain ⟨c0, c1, c2, c3, c4, c5⟩ := HLo.out.C.fr hW
   refine wpOp_step rfl (fun K hK => ?_)
   go_simp
   exact hK _ _ ⟨_, rfl, (by first | rfl | simp), grown_refl _ _, hW⟩
  ·cases ho
   intro fu act u hW hsz hL hdep
   have d10 : _ = (.slice (some ⟨gr, 0, none⟩) 8 cr : Value) := hdep { on := 10, ground := .data } (by simp) rfl _ rfl
   have d12 : _ = (.int .i64 b : Value) := hdep { on := 12, ground := .data } (by simp) rfl _ rfl
   obtain ⟨ysl, ha, hy⟩ := hL.puts [45, 46, 47, 48, 49, 50, 51, 52, 53, 54, 55, 56, 57, 58, 59, 60, 44, 61, 62, 8, 9] (by kernel_rfl)
   have e10 : ysl 55 = (.slice (some ⟨gr, 0, none⟩) 8 cr : Value) := (hy 55).symm.trans d10
   have e12 : ysl 57 = (.int .i64 b : Value) := (hy 57).symm.trans d12
   clear hdep hL hy d10 d12
   simp only [List.foldl, List.setIfInBounds_toArray, List.set_cons_succ, List.set_cons_zero, e10, e12] at ha
   subst ha
   clear e10 e12
   refine wpOp_step rfl (fun K hK => ?_)
   go_simp
   exact hK _ _ ⟨_, rfl, (by first | rfl | simp), grown_refl _ _, hW⟩
  ·cases ho
   intro fu act u hW hsz hL hdep
   have d13 : _ = (.pointer (some ⟨gr, b.toNat, none⟩) : Value) := hdep { on := 13, ground := .data } (by simp) rfl _ rfl
   obtain ⟨ysl, ha, hy⟩ := hL.puts [45, 46, 47, 48, 49, 50, 51, 52, 53, 54, 55, 56, 57, 58, 59, 60, 44, 61, 62, 8, 9] (by kernel_rfl)
   have e13 : ysl 58 = (.pointer (some ⟨gr, b.toNat, none⟩) : Value) := (hy 58).symm.trans d13
   clear hdep hL hy d13
   simp only [List.foldl, List.setIfInBounds_toArray, List.set_cons_succ, List.set_cons_zero, e13] at ha
   subst ha
   clear e13
   have cb := (HLo.out.O.fr hW).R.cel b.toNat HRb.out
   rw [HYY.out] at cb
   refine wpOp_step rfl (fun K hK => ?_)
   go_simp
   exact hK _ _ ⟨_, rfl, (by first | rfl | simp), grown_refl _ _, hW⟩
  ·cases ho
   intro fu act u hW hsz hL hdep
   have d0 : _ = (.agg #[.int .i64 k, .int .i64 0, .int .i64 a, .int .i64 b, .int .i64 f, .int .i64 n] : Value) := hdep { on := 0, ground := .data } (by simp) rfl _ rfl
   have d2 : _ = (.int .i64 s.pc : Value) := hdep { on := 2, ground := .data } (by simp) rfl _ rfl
   have d8 : _ = (.int .i64 x : Value) := hdep { on := 8, ground := .data } (by simp) rfl _ rfl
   have d14 : _ = (.int .i64 y : Value) := hdep { on := 14, ground := .data } (by simp) rfl _ rfl
   obtain ⟨ysl, ha, hy⟩ := hL.puts [45, 46, 47, 48, 49, 50, 51, 52, 53, 54, 55, 56, 57, 58, 59, 60, 44, 61, 62, 8, 9] (by kernel_rfl)
   have e0 : ysl 45 = (.agg #[.int .i64 k, .int .i64 0, .int .i64 a, .int .i64 b, .int .i64 f, .int .i64 n] : Value) := (hy 45).symm.trans d0
   have e2 : ysl 47 = (.int .i64 s.pc : Value) := (hy 47).symm.trans d2
   have e8 : ysl 53 = (.int .i64 x : Value) := (hy 53).symm.trans d8
   have e14 : ysl 59 = (.int .i64 y : Value) := (hy 59).symm.trans d14
   clear hdep hL hy d0 d2 d8 d14
   simp only [List.foldl, List.setIfInBounds_toArray, List.set_cons_succ, List.set_cons_zero, e0, e2, e8, e14] at ha
   subst ha
   clear e0 e2 e8 e14
   refine wpOp_step rfl (fun K hK => ?_)
   go_simp
   refine (EN.out u).mono ?_
   rintro e' u' ⟨rfl, fu2⟩
   go_simp
   exact hK _ _ ⟨_, rfl, (by first | rfl | simp), fr_grown fu2, Fr.trans hW fu2⟩
  ·cases ho
   intro fu act u hW hsz hL hdep
   have d15 : _ = (.tuple #[.int .i64 q1, .int .i64 q2] : Value) := hdep { on := 15, ground := .data } (by simp) rfl _ rfl
   obtain ⟨ysl, ha, hy⟩ := hL.puts [45, 46, 47, 48, 49, 50, 51, 52, 53, 54, 55, 56, 57, 58, 59, 60, 44, 61, 62, 8, 9] (by kernel_rfl)
   have e15 : ysl 60 = (.tuple #[.int .i64 q1, .int .i64 q2] : Value) := (hy 60).symm.trans d15
   clear hdep hL hy d15
   simp only [List.foldl, List.setIfInBounds_toArray, List.set_cons_succ, List.set_cons_zero, e15] at ha
   subst ha
   clear e15
   refine wpOp_step rfl (fun K hK => ?_)
   go_simp
   exact hK _ _ ⟨_, rfl, (by first | rfl | simp), grown_refl _ _, hW⟩
  ·cases ho
   intro fu act u hW hsz hL hdep
   have d16 : _ = (.tuple #[.int .i64 q1, .int .i64 q2] : Value) := hdep { on := 16, ground := .data } (by simp) rfl _ rfl
   obtain ⟨ysl, ha, hy⟩ := hL.puts [45, 46, 47, 48, 49, 50, 51, 52, 53, 54, 55, 56, 57, 58, 59, 60, 44, 61, 62, 8, 9] (by kernel_rfl)
   have e16 : ysl 44 = (.tuple #[.int .i64 q1, .int .i64 q2] : Value) := (hy 44).symm.trans d16
   clear hdep hL hy d16
   simp only [List.foldl, List.setIfInBounds_toArray, List.set_cons_succ, List.set_cons_zero, e16] at ha
   subst ha
   clear e16
   refine wpOp_step rfl (fun K hK => ?_)
   go_simp
   exact hK _ _ ⟨_, rfl, (by first | rfl | simp), grown_refl _ _, hW⟩
  ·cases ho
   intro fu act u hW hsz hL hdep
   have d16 : _ = (.tuple #[.int .i64 q1, .int .i64 q2] : Value) := hdep { on := 16, ground := .data } (by simp) rfl _ rfl
   obtain ⟨ysl, ha, hy⟩ := hL.puts [45, 46, 47, 48, 49, 50, 51, 52, 53, 54, 55, 56, 57, 58, 59, 60, 44, 61, 62, 8, 9] (by kernel_rfl)
   have e16 : ysl 44 = (.tuple #[.int .i64 q1, .int .i64 q2] : Value) := (hy 44).symm.trans d16
   clear hdep hL hy d16
   simp only [List.foldl, List.setIfInBounds_toArray, List.set_cons_succ, List.set_cons_zero, e16] at ha
   subst ha
   clear e16
   refine wpOp_step rfl (fun K hK => ?_)
   go_simp
   exact hK _ _ ⟨_, rfl, (by first | rfl | simp), grown_refl _ _, hW⟩
  ·cases ho
   intro fu act u hW hsz hL hdep
   have d17 : _ = (.int .i64 q1 : Value) := hdep { on := 17, ground := .data } (by simp) rfl _ rfl
   obtain ⟨ysl, ha, hy⟩ := hL.puts [45, 46, 47, 48, 49, 50, 51, 52, 53, 54, 55, 56, 57, 58, 59, 60, 44, 61, 62, 8, 9] (by kernel_rfl)
   have e17 : ysl 61 = (.int .i64 q1 : Value) := (hy 61).symm.trans d17
   clear hdep hL hy d17
   simp only [List.foldl, List.setIfInBounds_toArray, List.set_cons_succ, List.set_cons_zero, e17] at ha
   subst ha
   clear e17
   refine wpOp_step rfl (fun K hK => ?_)
   go_simp
   exact hK _ _ ⟨_, rfl, (by first | rfl | simp), grown_refl _ _, hW⟩
  ·cases ho
   intro fu act u hW hsz hL hdep
   have d18 : _ = (.int .i64 q2 : Value) := hdep { on := 18, ground := .data } (by simp) rfl _ rfl
   obtain ⟨ysl, ha, hy⟩ := hL.puts [45, 46, 47, 48, 49, 50, 51, 52, 53, 54, 55, 56, 57, 58, 59, 60, 44, 61, 62, 8, 9] (by kernel_rfl)
   have e18 : ysl 62 = (.int .i64 q2 : Value) := (hy 62).symm.trans d18
   clear hdep hL hy d18
   simp only [List.foldl, List.setIfInBounds_toArray, List.set_cons_succ, List.set_cons_zero, e18] at ha
   subst ha
   clear e18
   refine wpOp_step rfl (fun K hK => ?_)
   go_simp
   exact hK _ _ ⟨_, rfl, (by first | rfl | simp), grown_refl _ _, hW⟩
  ·exact absurd ho (by simp)
 case fin =>
  intro fu act u hW hg hL hF
  have d19 : _ = (.int .i64 q1 : Value) := hF 19 _ rfl
  have d20 : _ = (.int .i64 q2 : Value) := hF 20 _ rfl
  obtain ⟨ysl, ha, hy⟩ := hL.puts [45, 46, 47, 48, 49, 50, 51, 52, 53, 54, 55, 56, 57, 58, 59, 60, 44, 61, 62, 8, 9] (by kernel_rfl)
  have e19 : ysl 8 = (.int .i64 q1 : Value) := (hy 8).symm.trans d19
  have e20 : ysl 9 = (.int .i64 q2 : Value) := (hy 9).symm.trans d20
  clear hL hF hy d19 d20
  simp only [List.foldl, List.setIfInBounds_toArray, List.set_cons_succ, List.set_cons_zero, e19, e20] at ha
  subst ha
  clear e19 e20
  have lo1 : Lo u u00.heap.size s gr gc gm cr cc cm k 0 a b f n e := ⟨HLo.out.S.fr hW, HLo.out.C.fr hW, HLo.out.E.fr hW, HLo.out.Z.fr hW, HLo.out.Y.fr hW, HLo.out.O.fr hW⟩
  have hB1 := HBt.out.trans (But.of hW)
  clear HLo HBt hW hg hsz
  refine wp_seq_gen (fun v => Lo v u00.heap.size s gr gc gm cr cc cm k 0 a b f n e ∧ But [gr, gc, gm] u00 v) ⟨lo1, hB1⟩ ?_
  clear lo1 hB1
  clear u u0
  rintro v1 ⟨lo, hB⟩
  have HLo := Lib.hid lo
  have HBt := Lib.hid hB
  have hsz := hB.size
  obtain ⟨⟨g1, s0, s1, s2, s3, S0, S1, S2, S3⟩, ⟨i0, i1, i2, i3, i4, i5⟩, ⟨g5, e0, e1, e2, e3, e4, e5, e6, E0, E1, E2, E3, E4, E5, E6⟩, g6, g7, g8⟩ := lo
  clear hB g1 g5 g6 g7 g8
  go_wp2_with fail
  refine wp_gen (fun v => Lo v u00.heap.size (⟨q1, s.R, s.C, s.M⟩ : St) gr gc gm cr cc cm k 0 a b f n e ∧ But [gr, gc, gm] u00 v) ⟨⟨?_, ?_, ?_, ?_, ?_, ?_⟩, ?_⟩ ?_
  ·have qq := HLo.out.S
   exact qq.set0 _
  ·have qq := HLo.out.C
   (repeat with_reducible first | assumption | exact Box.new6 _ _ _ _ _ _ _ _ _ (by first | rfl | simp | (simp; omega)) | refine Box.alloc ?_ _ | refine Box.drew ?_ | refine Box.drewN ?_ _ | refine Box.other ?_ _ _ _ (by omega))
  ·have qq := HLo.out.E
   (repeat with_reducible first | assumption | exact Box7.new _ _ _ _ (by first | rfl | simp | (simp; omega)) | exact Box7.newv _ _ _ _ _ _ _ _ _ _ (by first | rfl | simp | (simp; omega)) | refine Box7.alloc ?_ _ | refine Box7.drew ?_ | refine Box7.drewN ?_ _ | refine Box7.other ?_ _ _ _ (by omega))
  ·have qq := HLo.out.Z
   (repeat with_reducible first | assumption | exact Box4.new _ _ _ _ _ _ _ (by first | rfl | simp | (simp; omega)) | refine Box4.alloc ?_ _ | refine Box4.drew ?_ | refine Box4.drewN ?_ _ | refine Box4.other ?_ _ _ _ (by omega))
  ·have qq := HLo.out.Y
   (repeat with_reducible first | assumption | exact Box7.new _ _ _ _ (by first | rfl | simp | (simp; omega)) | exact Box7.newv _ _ _ _ _ _ _ _ _ _ (by first | rfl | simp | (simp; omega)) | refine Box7.alloc ?_ _ | refine Box7.drew ?_ | refine Box7.drewN ?_ _ | refine Box7.other ?_ _ _ _ (by omega))
  ·have qq := HLo.out.O
   (repeat with_reducible first | refine Own.alloc ?_ _ | refine Own.drew ?_ | refine Own.drewN ?_ _ | refine Own.other ?_ _ _ _ (by omega) (by omega) (by omega))
   exact qq.pc q1
  ·have hB := HBt.out
   (repeat with_reducible first | exact But.refl _ _ | assumption | refine But.alloc ?_ _ | refine But.drew ?_ | refine But.drewN ?_ _ | refine But.set ?_ _ _ _ (by first | (left; simp; done) | (right; simp; done) | (right; omega) | (right; simp; omega)))
  clear s0 s1 s2 s3 S0 S1 S2 S3 i0 i1 i2 i3 i4 i5 e0 e1 e2 e3 e4 e5 e6 E0 E1 E2 E3 E4 E5 E6 hsz
  clear HLo HBt
  clear v1
  rintro v0 ⟨lo, hB⟩
  have HLo := Lib.hid lo
  have HBt := Lib.hid hB
  have hsz := hB.size
  obtain ⟨⟨g1, s0, s1, s2, s3, S0, S1, S2, S3⟩, ⟨i0, i1, i2, i3, i4, i5⟩, ⟨g5, e0, e1, e2, e3, e4, e5, e6, E0, E1, E2, E3, E4, E5, E6⟩, g6, g7, g8⟩ := lo
  clear hB g1 g5 g6 g7 g8
  have HS := Lib.hid HLo.out.S
  have HE := Lib.hid HLo.out.E
  have HZ := Lib.hid HLo.out.Z
  have HY := Lib.hid HLo.out.Y
  have HO := Lib.hid HLo.out.O
  clear s0 s1 s2 s3 S0 S1 S2 S3 i0 i1 i2 i3 i4 i5 e0 e1 e2 e3 e4 e5 e6 E0 E1 E2 E3 E4 E5 E6 hsz
  clear HLo
  refine wp_region_rows 80 3 [u00.heap.size + 3] (fun i => if i = 2 then [u00.heap.size + 3] else []) lb1_in (fun i => false) (fun i v u => match i with | 0 => v = .agg #[.int .i64 q1, .slice (some ⟨gr, 0, none⟩) 8 cr, .slice (some ⟨gc, 0, none⟩) 5 cc, .slice (some ⟨gm, 0, none⟩) 256 cm] | 1 => v = .agg #[.int .i64 (e).pc, .int .i64 (e).w, .int .i64 (e).why, .int .i64 (e).d, .int .i64 (e).v, .int .i64 (e).ad, .int .i64 (e).dt] | 2 => v = undef ∧ Box4 u (u00.heap.size + 3) (.int .i64 q1) (.slice (some ⟨gr, 0, none⟩) 8 cr) (.slice (some ⟨gc, 0, none⟩) 5 cc) (.slice (some ⟨gm, 0, none⟩) 256 cm) | _ => True) ?mono (by kernel_rfl) (by kernel_rfl) rfl (by kernel_rfl) (by kernel_rfl) (by decide) ?step ?fin
  case mono =>
   intro i j v u u' hi hij hdj hsz h hB
   rcases j with _ | _ | _ | j
   ·exact h
   ·exact h
   ·refine ⟨h.1, ?_⟩
    have hB' : But [] u u' := hB.mono (fun k hk _ => lb1_out i hij k hk)
    exact h.2.but hB' (by simp)
   ·trivial
  case step =>
   intro i o ho hiz
   rcases i with _ | _ | _ | _ | i
   ·clear hiz
    cases ho
    intro act u hB hL hdep hap hnw
    replace hB := hB [u00.heap.size + 3] (fun j _ k hk => lb1_in j k hk)
    have x3 := out_val hL (k := 3) (by kernel_rfl) rfl rfl
    clear hdep hL hap hnw
    have Bx := HS.out.but hB (by simp; try omega)
    obtain ⟨lt, c0, c1, c2, c3, _, _, _, _⟩ := Bx
    refine wpOp_step rfl (fun K hK => ?_)
    go_simp
    exact hK _ _ ⟨_, rfl, (fun h => by cases h), rfl, But.refl _ _, (fun h => by cases h)⟩
   ·clear hiz
    cases ho
    intro act u hB hL hdep hap hnw
    replace hB := hB [u00.heap.size + 3] (fun j _ k hk => lb1_in j k hk)
    have x5 := out_val hL (k := 5) (by kernel_rfl) rfl rfl
    clear hdep hL hap hnw
    have Bx := HE.out.but hB (by simp; try omega)
    obtain ⟨lt, c0, c1, c2, c3, c4, c5, c6, _, _, _, _, _, _, _⟩ := Bx
    refine wpOp_step rfl (fun K hK => ?_)
    go_simp
    exact hK _ _ ⟨_, rfl, (fun h => by cases h), rfl, But.refl _ _, (fun h => by cases h)⟩
   ·clear hiz
    cases ho
    intro act u hB hL hdep hap hnw
    replace hB := hB [] lb1_out
    have e0 : act.tmps.getD 78 undef = _ := hdep { on := 0, ground := .data } (by simp) rfl _ rfl
    have x6 := out_val hL (k := 6) (by kernel_rfl) rfl rfl
    clear hdep hL hap hnw
    have Bz0 := HZ.out.but hB (by simp; try omega)
    have Bz1 := Bz0
    obtain ⟨lt, c0, c1, c2, c3, f0, f1, f2, f3⟩ := Bz1
    refine wpOp_step rfl (fun K hK => ?_)
    go_simp
    exact hK _ _ ⟨undef, rfl, (fun _ => rfl), ⟨rfl, Bz0.set (.int .i64 q1) (.slice (some ⟨gr, 0, none⟩) 8 cr) (.slice (some ⟨gc, 0, none⟩) 5 cc) (.slice (some ⟨gm, 0, none⟩) 256 cm)⟩, (But.refl _ _).set4 (u00.heap.size + 3) _ _ _ _ (.inl (by simp)), (fun h => by cases h)⟩
   ·exact absurd rfl hiz
   ·exact absurd ho (by simp)
  case fin =>
   intro act u hB hL hsf hap hnw
   have d1 := hsf 1 _ rfl (by decide)
   have d2 := hsf 2 _ rfl (by decide)
   obtain ⟨ysl, ha, hy⟩ := hL.puts [78, 79] (by kernel_rfl)
   have e1 : ysl 79 = _ := (hy 79).symm.trans d1
   obtain ⟨h2, Bz⟩ := d2
   clear hL hsf hy hap hnw d1
   simp only [List.foldl, List.setIfInBounds_toArray, List.set_cons_succ, List.set_cons_zero, e1] at ha
   subst ha
   clear e1
   have ow1 : Own u gr gc gm (⟨q1, s.R, s.C, s.M⟩ : St) := HO.out.but hB (by simp; omega) (by simp; omega) (by simp; omega)
   have Bz1 := Bz
   obtain ⟨_, z0, z1, z2, z3, _, _, _, _⟩ := Bz1
   have By := HY.out.but hB (by simp; try omega)
   have By1 := By
   obtain ⟨yl, y0, y1, y2, y3, y4, y5, y6, x0, x1, x2, x3, x4, x5, x6⟩ := By1
   have hB2 : But [gr, gc, gm] u00 u := HBt.out.trans2 hB (fun k hk => by simp at hk ⊢; omega)
   refine wpOp_step rfl (fun K hK => ?_)
   go_simp
   refine hK _ _ ?_
   refine wp_seq_gen (fun t => Own t gr gc gm (⟨q1, s.R, s.C, s.M⟩ : St) ∧ Box4 t (u00.heap.size + 3) (.int .i64 q1) (.slice (some ⟨gr, 0, none⟩) 8 cr) (.slice (some ⟨gc, 0, none⟩) 5 cc) (.slice (some ⟨gm, 0, none⟩) 256 cm) ∧ Box7 t (u00.heap.size + 4) (e) ∧ But [gr, gc, gm] u00 t) ⟨?_, ?_, ?_, ?_⟩ ?_
   ·(repeat with_reducible first | refine Own.alloc ?_ _ | refine Own.drew ?_ | refine Own.drewN ?_ _ | refine Own.other ?_ _ _ _ (by omega) (by omega) (by omega))
    exact ow1
   ·(repeat with_reducible first | assumption | exact Box4.new _ _ _ _ _ _ _ (by first | rfl | simp | (simp; omega)) | refine Box4.alloc ?_ _ | refine Box4.drew ?_ | refine Box4.drewN ?_ _ | refine Box4.other ?_ _ _ _ (by omega))
   ·exact ((((((By.set0 _).set1 _).set2 _).set3 _).set4 _).set5 _).set6 _
   ·(repeat with_reducible first | exact But.refl _ _ | assumption | refine But.alloc ?_ _ | refine But.drew ?_ | refine But.drewN ?_ _ | refine But.set ?_ _ _ _ (by first | (left; simp; done) | (right; simp; done) | (right; omega) | (right; simp; omega)))
   clear z0 z1 z2 z3 y0 y1 y2 y3 y4 y5 y6 x0 x1 x2 x3 x4 x5 x6 By Bz ow1 hB2 hB yl
   rintro t ⟨ow2, bz, by', hB2⟩
   obtain ⟨_, z0, z1, z2, z3, _, _, _, _⟩ := bz
   obtain ⟨_, y0, y1, y2, y3, y4, y5, y6, _, _, _, _, _, _, _⟩ := by'
   go_wp2
   refine bodyPost_ret (v := .tuple #[.agg #[.int .i64 q1, .slice (some ⟨gr, 0, none⟩) 8 cr, .slice (some ⟨gc, 0, none⟩) 5 cc, .slice (some ⟨gm, 0, none⟩) 256 cm], .agg #[.int .i64 (e).pc, .int .i64 (e).w, .int .i64 (e).why, .int .i64 (e).d, .int .i64 (e).v, .int .i64 (e).ad, .int .i64 (e).dt]]) (by simp [results, Tryd.results71, go_sem, z0, z1, z2, z3, y0, y1, y2, y3, y4, y5, y6]) rfl ?_
   exact ⟨rfl, ow2, hB2⟩
set_option maxRecDepth 8000 in
set_option maxHeartbeats 4000000 in
theorem spec_Do_gen (s : St) (e : Ev) (gr gc gm cr cc cm : Nat) (k : Int) (d a b f n : Int) (u00 : World) (ho : Own u00 gr gc gm s) (hk : OkS s) (hi : iok k d a b f n = true) (hq3 : k ≠ 3) (hq4 : k ≠ 4) (hq10 : k ≠ 10) (hq13 : k ≠ 13) (hq14 : k ≠ 14) (hq15 : k ≠ 15) (hq12 : k ≠ 12) (hd : 0 < d) :
  Calls Tryd.prog 71 #[.agg #[.int .i64 s.pc, .slice (some ⟨gr, 0, none⟩) 8 cr, .slice (some ⟨gc, 0, none⟩) 5 cc, .slice (some ⟨gm, 0, none⟩) 256 cm], .agg #[.int .i64 k, .int .i64 d, .int .i64 a, .int .i64 b, .int .i64 f, .int .i64 n], .agg #[.int .i64 (e).pc, .int .i64 (e).w, .int .i64 (e).why, .int .i64 (e).d, .int .i64 (e).v, .int .i64 (e).ad, .int .i64 (e).dt]] u00 (MP ⟨(nxV k n s.pc (rg s a) (rg s b) f).1, putR s.R d (nxV k n s.pc (rg s a) (rg s b) f).2, s.C, s.M⟩ { e with d := d, v := (nxV k n s.pc (rg s a) (rg s b) f).2 } gr gc gm cr cc cm u00) := by
 obtain ⟨⟨d0, d1⟩, ⟨a0, a1⟩, ⟨b0, b1⟩, ⟨f0, f1⟩, n0, n1⟩ := sok_bd (sok_of hi)
 have lr := ho.R.lt
 have lc := ho.C.lt
 have lm := ho.M.lt
 have HO0 := Lib.hid ho
 have HCl := Lib.hid hk.Cl
 have HRL := Lib.hid hk.Rl
 have HC3 := Lib.hid (And.intro (ok_get hk.C 3).1 hk.c3)
 have c3b := ok_get hk.C 3
 have hc4 := hk.c3
 have pb := okB_true hk.pc
 have a8 : a < 8 := by omega
 have HRl := Lib.hid (show a.toNat < s.R.length by have := hk.Rl; omega)
 obtain ⟨x, hx⟩ : ∃ x, x = rg s a := ⟨_, rfl⟩
 have xb : 0 ≤ x ∧ x < 65536 := by rw [hx]; exact okB_true (rg_ok hk a)
 have HX := Lib.hid (show s.R.getD a.toNat 0 = x from hx.symm)
 obtain ⟨t3, h3⟩ : ∃ t, t = s.C.getD 3 0 := ⟨_, rfl⟩
 obtain ⟨t0, h0⟩ : ∃ t, t = s.C.getD 0 0 := ⟨_, rfl⟩
 have H3 := Lib.hid h3.symm
 have H0 := Lib.hid h0.symm
 rw [← h3] at c3b hc4
 have hkk := iok_k hi
 obtain ⟨y, hy⟩ : ∃ y, y = rg s b := ⟨_, rfl⟩
 have yb : 0 ≤ y ∧ y < 65536 := by rw [hy]; exact okB_true (rg_ok hk b)
 have HYY := Lib.hid (show s.R.getD b.toNat 0 = y from hy.symm)
 have HRb := Lib.hid (show b.toNat < s.R.length by have := hk.Rl; omega)
 have b8 : b < 8 := by omega
 rw [← hx, ← hy]
 have EN := Lib.hid (fun (v : World) => spec_l4Next k d a b f n s.pc x y v hkk n0 n1 pb.1 pb.2 xb.1 xb.2 yb.1 yb.2)
 generalize (nxV k n s.pc x y f).1 = q1 at *
 generalize (nxV k n s.pc x y f).2 = q2 at *
 have j3 : (k == 3) = false := by simpa using hq3
 have j4 : (k == 4) = false := by simpa using hq4
 have j10 : (k == 10) = false := by simpa using hq10
 have j13 : (k == 13) = false := by simpa using hq13
 have j14 : (k == 14) = false := by simpa using hq14
 have j15 : (k == 15) = false := by simpa using hq15
 have j12 : (k == 12) = false := by simpa using hq12
 clear hx hy h3 h0 hi hk ho hkk hq3 hq4 hq10 hq13 hq14 hq15 hq12
 go_enter Tryd.func71, Tryd.ntmps71
 go_wp2_with fail
 refine wp_gen (fun v => Lo v u00.heap.size s gr gc gm cr cc cm k d a b f n e ∧ But [gr, gc, gm] u00 v) ⟨⟨?_, ?_, ?_, ?_, ?_, ?_⟩, ?_⟩ ?_
 ·(repeat with_reducible first | assumption | exact Box4.new _ _ _ _ _ _ _ (by first | rfl | simp | (simp; omega)) | refine Box4.alloc ?_ _ | refine Box4.drew ?_ | refine Box4.drewN ?_ _ | refine Box4.other ?_ _ _ _ (by omega))
 ·(repeat with_reducible first | assumption | exact Box.new6 _ _ _ _ _ _ _ _ _ (by first | rfl | simp | (simp; omega)) | refine Box.alloc ?_ _ | refine Box.drew ?_ | refine Box.drewN ?_ _ | refine Box.other ?_ _ _ _ (by omega))
 ·(repeat with_reducible first | assumption | exact Box7.new _ _ _ _ (by first | rfl | simp | (simp; omega)) | exact Box7.newv _ _ _ _ _ _ _ _ _ _ (by first | rfl | simp | (simp; omega)) | refine Box7.alloc ?_ _ | refine Box7.drew ?_ | refine Box7.drewN ?_ _ | refine Box7.other ?_ _ _ _ (by omega))
 ·(repeat with_reducible first | assumption | exact Box4.new _ _ _ _ _ _ _ (by first | rfl | simp | (simp; omega)) | refine Box4.alloc ?_ _ | refine Box4.drew ?_ | refine Box4.drewN ?_ _ | refine Box4.other ?_ _ _ _ (by omega))
 ·(repeat with_reducible first | assumption | exact Box7.new _ _ _ _ (by first | rfl | simp | (simp; omega)) | exact Box7.newv _ _ _ _ _ _ _ _ _ _ (by first | rfl | simp | (simp; omega)) | refine Box7.alloc ?_ _ | refine Box7.drew ?_ | refine Box7.drewN ?_ _ | refine Box7.other ?_ _ _ _ (by omega))
 ·(repeat with_reducible first | refine Own.alloc ?_ _ | refine Own.drew ?_ | refine Own.drewN ?_ _ | refine Own.other ?_ _ _ _ (by omega) (by omega) (by omega))
  exact HO0.out
 ·(repeat with_reducible first | exact But.refl _ _ | assumption | refine But.alloc ?_ _ | refine But.drew ?_ | refine But.drewN ?_ _ | refine But.set ?_ _ _ _ (by first | (left; simp; done) | (right; simp; done) | (right; omega) | (right; simp; omega)))
 simp only [Nat.add_assoc, Nat.reduceAdd]
 rintro u0 ⟨lo, hB⟩
 have HLo := Lib.hid lo
 have HBt := Lib.hid hB
 have hsz := hB.size
 clear lo hB j3 j4 j10 j13 j14 j15 j12
 refine wp_region_plan 0 80 (fun _ u => Fr u0 u) (fun i v _ => v = ([.agg #[.int .i64 k, .int .i64 d, .int .i64 a, .int .i64 b, .int .i64 f, .int .i64 n], .pointer (some ⟨u00.heap.size, 0, none⟩), .int .i64 s.pc, .pointer (some ⟨u00.heap.size, 1, none⟩), .slice (some ⟨gr, 0, none⟩) 8 cr, .pointer (some ⟨u00.heap.size + 1, 2, none⟩), .int .i64 a, .pointer (some ⟨gr, a.toNat, none⟩), .int .i64 x, .pointer (some ⟨u00.heap.size, 1, none⟩), .slice (some ⟨gr, 0, none⟩) 8 cr, .pointer (some ⟨u00.heap.size + 1, 3, none⟩), .int .i64 b, .pointer (some ⟨gr, b.toNat, none⟩), .int .i64 y, .tuple #[.int .i64 q1, .int .i64 q2], .tuple #[.int .i64 q1, .int .i64 q2], .int .i64 q1, .int .i64 q2, .int .i64 q1, .int .i64 q2] : List Value).getD i undef) (by kernel_rfl) (by kernel_rfl) rfl (by kernel_rfl) (fun _ _ _ _ h _ => h) (Below.drew (Below.refl _ _)) ?step ?fin
 case step =>
  intro i o ho
  rcases i with _ | _ | _ | _ | _ | _ | _ | _ | _ | _ | _ | _ | _ | _ | _ | _ | _ | _ | _ | _ | _ | i
  ·cases ho
   intro fu act u hW hsz hL hdep
   obtain ⟨ysl, ha, hy⟩ := hL.puts [45, 46, 47, 48, 49, 50, 51, 52, 53, 54, 55, 56, 57, 58, 59, 60, 44, 61, 62, 8, 9] (by kernel_rfl)
   clear hdep hL hy
   simp only [List.foldl, List.setIfInBounds_toArray, List.set_cons_succ, List.set_cons_zero] at ha
   subst ha
   obtain ⟨c0, c1, c2, c3, c4, c5⟩ := HLo.out.C.fr hW
   refine wpOp_step rfl (fun K hK => ?_)
   go_simp
   exact hK _ _ ⟨_, rfl, (by first | rfl | simp), grown_refl _ _, hW⟩
  ·cases ho
   intro fu act u hW hsz hL hdep
   obtain ⟨ysl, ha, hy⟩ := hL.puts [45, 46, 47, 48, 49, 50, 51, 52, 53, 54, 55, 56, 57, 58, 59, 60, 44, 61, 62, 8, 9] (by kernel_rfl)
   clear hdep hL hy
   simp only [List.foldl, List.setIfInBounds_toArray, List.set_cons_succ, List.set_cons_zero] at ha
   subst ha
   refine wpOp_step rfl (fun K hK => ?_)
   go_simp
   exact hK _ _ ⟨_, rfl, (by first | rfl | simp), grown_refl _ _, hW⟩
  ·cases ho
   intro fu act u hW hsz hL hdep
   have d1 : _ = (.pointer (some ⟨u00.heap.size, 0, none⟩) : Value) := hdep { on := 1, ground := .data } (by simp) rfl _ rfl
   obtain ⟨ysl, ha, hy⟩ := hL.puts [45, 46, 47, 48, 49, 50, 51, 52, 53, 54, 55, 56, 57, 58, 59, 60, 44, 61, 62, 8, 9] (by kernel_rfl)
   have e1 : ysl 46 = (.pointer (some ⟨u00.heap.size, 0, none⟩) : Value) := (hy 46).symm.trans d1
   clear hdep hL hy d1
   simp only [List.foldl, List.setIfInBounds_toArray, List.set_cons_succ, List.set_cons_zero, e1] at ha
   subst ha
   clear e1
   obtain ⟨lt, c0, c1, c2, c3, _, _, _, _⟩ := HLo.out.S.fr hW
   refine wpOp_step rfl (fun K hK => ?_)
   go_simp
   exact hK _ _ ⟨_, rfl, (by first | rfl | simp), grown_refl _ _, hW⟩
  ·cases ho
   intro fu act u hW hsz hL hdep
   obtain ⟨ysl, ha, hy⟩ := hL.puts [45, 46, 47, 48, 49, 50, 51, 52, 53, 54, 55, 56, 57, 58, 59, 60, 44, 61, 62, 8, 9] (by kernel_rfl)
   clear hdep hL hy
   simp only [List.foldl, List.setIfInBounds_toArray, List.set_cons_succ, List.set_cons_zero] at ha
   subst ha
   refine wpOp_step rfl (fun K hK => ?_)
   go_simp
   exact hK _ _ ⟨_, rfl, (by first | rfl | simp), grown_refl _ _, hW⟩
  ·cases ho
   intro fu act u hW hsz hL hdep
   have d3 : _ = (.pointer (some ⟨u00.heap.size, 1, none⟩) : Value) := hdep { on := 3, ground := .data } (by simp) rfl _ rfl
   obtain ⟨ysl, ha, hy⟩ := hL.puts [45, 46, 47, 48, 49, 50, 51, 52, 53, 54, 55, 56, 57, 58, 59, 60, 44, 61, 62, 8, 9] (by kernel_rfl)
   have e3 : ysl 48 = (.pointer (some ⟨u00.heap.size, 1, none⟩) : Value) := (hy 48).symm.trans d3
   clear hdep hL hy d3
   simp only [List.foldl, List.setIfInBounds_toArray, List.set_cons_succ, List.set_cons_zero, e3] at ha
   subst ha
   clear e3
   obtain ⟨lt, c0, c1, c2, c3, _, _, _, _⟩ := HLo.out.S.fr hW
   refine wpOp_step rfl (fun K hK => ?_)
   go_simp
   exact hK _ _ ⟨_, rfl, (by first | rfl | simp), grown_refl _ _, hW⟩
  ·cases ho
   intro fu act u hW hsz hL hdep
   obtain ⟨ysl, ha, hy⟩ := hL.puts [45, 46, 47, 48, 49, 50, 51, 52, 53, 54, 55, 56, 57, 58, 59, 60, 44, 61, 62, 8, 9] (by kernel_rfl)
   clear hdep hL hy
   simp only [List.foldl, List.setIfInBounds_toArray, List.set_cons_succ, List.set_cons_zero] at ha
   subst ha
   refine wpOp_step rfl (fun K hK => ?_)
   go_simp
   exact hK _ _ ⟨_, rfl, (by first | rfl | simp), grown_refl _ _, hW⟩
  ·cases ho
   intro fu act u hW hsz hL hdep
   have d5 : _ = (.pointer (some ⟨u00.heap.size + 1, 2, none⟩) : Value) := hdep { on := 5, ground := .data } (by simp) rfl _ rfl
   obtain ⟨ysl, ha, hy⟩ := hL.puts [45, 46, 47, 48, 49, 50, 51, 52, 53, 54, 55, 56, 57, 58, 59, 60, 44, 61, 62, 8, 9] (by kernel_rfl)
   have e5 : ysl 50 = (.pointer (some ⟨u00.heap.size + 1, 2, none⟩) : Value) := (hy 50).symm.trans d5
   clear hdep hL hy d5
   simp only [List.foldl, List.setIfInBounds_toArray, List.set_cons_succ, List.set_cons_zero, e5] at ha
   subst ha
   clear e5
   obtain ⟨c0, c1, c2, c3, c4, c5⟩ := HLo.out.C.fr hW
   refine wpOp_step rfl (fun K hK => ?_)
   go_simp
   exact hK _ _ ⟨_, rfl, (by first | rfl | simp), grown_refl _ _, hW⟩
  ·cases ho
   intro fu act u hW hsz hL hdep
   have d4 : _ = (.slice (some ⟨gr, 0, none⟩) 8 cr : Value) := hdep { on := 4, ground := .data } (by simp) rfl _ rfl
   have d6 : _ = (.int .i64 a : Value) := hdep { on := 6, ground := .data } (by simp) rfl _ rfl
   obtain ⟨ysl, ha, hy⟩ := hL.puts [45, 46, 47, 48, 49, 50, 51, 52, 53, 54, 55, 56, 57, 58, 59, 60, 44, 61, 62, 8, 9] (by kernel_rfl)
   have e4 : ysl 49 = (.slice (some ⟨gr, 0, none⟩) 8 cr : Value) := (hy 49).symm.trans d4
   have e6 : ysl 51 = (.int .i64 a : Value) := (hy 51).symm.trans d6
   clear hdep hL hy d4 d6
   simp only [List.foldl, List.setIfInBounds_toArray, List.set_cons_succ, List.set_cons_zero, e4, e6] at ha
   subst ha
   clear e4 e6
   refine wpOp_step rfl (fun K hK => ?_)
   go_simp
   exact hK _ _ ⟨_, rfl, (by first | rfl | simp), grown_refl _ _, hW⟩
  ·cases ho
   intro fu act u hW hsz hL hdep
   have d7 : _ = (.pointer (some ⟨gr, a.toNat, none⟩) : Value) := hdep { on := 7, ground := .data } (by simp) rfl _ rfl
   obtain ⟨ysl, ha, hy⟩ := hL.puts [45, 46, 47, 48, 49, 50, 51, 52, 53, 54, 55, 56, 57, 58, 59, 60, 44, 61, 62, 8, 9] (by kernel_rfl)
   have e7 : ysl 52 = (.pointer (some ⟨gr, a.toNat, none⟩) : Value) := (hy 52).symm.trans d7
   clear hdep hL hy d7
   simp only [List.foldl, List.setIfInBounds_toArray, List.set_cons_succ, List.set_cons_zero, e7] at ha
   subst ha
   clear e7
   have ca := (HLo.out.O.fr hW).R.cel a.toNat HRl.out
   rw [HX.out] at ca
   refine wpOp_step rfl (fun K hK => ?_)
   go_simp
   exact hK _ _ ⟨_, rfl, (by first | rfl | simp), grown_refl _ _, hW⟩
  ·cases ho
   intro fu act u hW hsz hL hdep
   obtain ⟨ysl, ha, hy⟩ := hL.puts [45, 46, 47, 48, 49, 50, 51, 52, 53, 54, 55, 56, 57, 58, 59, 60, 44, 61, 62, 8, 9] (by kernel_rfl)
   clear hdep hL hy
   simp only [List.foldl, List.setIfInBounds_toArray, List.set_cons_succ, List.set_cons_zero] at ha
   subst ha
   refine wpOp_step rfl (fun K hK => ?_)
   go_simp
   exact hK _ _ ⟨_, rfl, (by first | rfl | simp), grown_refl _ _, hW⟩
  ·cases ho
   intro fu act u hW hsz hL hdep
   have d9 : _ = (.pointer (some ⟨u00.heap.size, 1, none⟩) : Value) := hdep { on := 9, ground := .data } (by simp) rfl _ rfl
   obtain ⟨ysl, ha, hy⟩ := hL.puts [45, 46, 47, 48, 49, 50, 51, 52, 53, 54, 55, 56, 57, 58, 59, 60, 44, 61, 62, 8, 9] (by kernel_rfl)
   have e9 : ysl 54 = (.pointer (some ⟨u00.heap.size, 1, none⟩) : Value) := (hy 54).symm.trans d9
   clear hdep hL hy d9
   simp only [List.foldl, List.setIfInBounds_toArray, List.set_cons_succ, List.set_cons_zero, e9] at ha
   subst ha
   clear e9
   obtain ⟨lt, c0, c1, c2, c3, _, _, _, _⟩ := HLo.out.S.fr hW
   refine wpOp_step rfl (fun K hK => ?_)
   go_simp
   exact hK _ _ ⟨_, rfl, (by first | rfl | simp), grown_refl _ _, hW⟩
  ·cases ho
   intro fu act u hW hsz hL hdep
   obtain ⟨ysl, ha, hy⟩ := hL.puts [45, 46, 47, 48, 49, 50, 51, 52, 53, 54, 55, 56, 57, 58, 59, 60, 44, 61, 62, 8, 9] (by kernel_rfl)
   clear hdep hL hy
   simp only [List.foldl, List.setIfInBounds_toArray, List.set_cons_succ, List.set_cons_zero] at ha
   subst ha
   refine wpOp_step rfl (fun K hK => ?_)
   go_simp
   exact hK _ _ ⟨_, rfl, (by first | rfl | simp), grown_refl _ _, hW⟩
  ·cases ho
   intro fu act u hW hsz hL hdep
   have d11 : _ = (.pointer (some ⟨u00.heap.size + 1, 3, none⟩) : Value) := hdep { on := 11, ground := .data } (by simp) rfl _ rfl
   obtain ⟨ysl, ha, hy⟩ := hL.puts [45, 46, 47, 48, 49, 50, 51, 52, 53, 54, 55, 56, 57, 58, 59, 60, 44, 61, 62, 8, 9] (by kernel_rfl)
   have e11 : ysl 56 = (.pointer (some ⟨u00.heap.size + 1, 3, none⟩) : Value) := (hy 56).symm.trans d11
   clear hdep hL hy d11
   simp only [List.foldl, List.setIfInBounds_toArray, List.set_cons_succ, List.set_cons_zero, e11] at ha
   subst ha
   clear e11
   obtain ⟨c0, c1, c2, c3, c4, c5⟩ := HLo.out.C.fr hW
   refine wpOp_step rfl (fun K hK => ?_)
   go_simp
   exact hK _ _ ⟨_, rfl, (by first | rfl | simp), grown_refl _ _, hW⟩
  ·cases ho
   intro fu act u hW hsz hL hdep
   have d10 : _ = (.slice (some ⟨gr, 0, none⟩) 8 cr : Value) := hdep { on := 10, ground := .data } (by simp) rfl _ rfl
   have d12 : _ = (.int .i64 b : Value) := hdep { on := 12, ground := .data } (by simp) rfl _ rfl
   obtain ⟨ysl, ha, hy⟩ := hL.puts [45, 46, 47, 48, 49, 50, 51, 52, 53, 54, 55, 56, 57, 58, 59, 60, 44, 61, 62, 8, 9] (by kernel_rfl)
   have e10 : ysl 55 = (.slice (some ⟨gr, 0, none⟩) 8 cr : Value) := (hy 55).symm.trans d10
   have e12 : ysl 57 = (.int .i64 b : Value) := (hy 57).symm.trans d12
   clear hdep hL hy d10 d12
   simp only [List.foldl, List.setIfInBounds_toArray, List.set_cons_succ, List.set_cons_zero, e10, e12] at ha
   subst ha
   clear e10 e12
   refine wpOp_step rfl (fun K hK => ?_)
   go_simp
   exact hK _ _ ⟨_, rfl, (by first | rfl | simp), grown_refl _ _, hW⟩
  ·cases ho
   intro fu act u hW hsz hL hdep
   have d13 : _ = (.pointer (some ⟨gr, b.toNat, none⟩) : Value) := hdep { on := 13, ground := .data } (by simp) rfl _ rfl
   obtain ⟨ysl, ha, hy⟩ := hL.puts [45, 46, 47, 48, 49, 50, 51, 52, 53, 54, 55, 56, 57, 58, 59, 60, 44, 61, 62, 8, 9] (by kernel_rfl)
   have e13 : ysl 58 = (.pointer (some ⟨gr, b.toNat, none⟩) : Value) := (hy 58).symm.trans d13
   clear hdep hL hy d13
   simp only [List.foldl, List.setIfInBounds_toArray, List.set_cons_succ, List.set_cons_zero, e13] at ha
   subst ha
   clear e13
   have cb := (HLo.out.O.fr hW).R.cel b.toNat HRb.out
   rw [HYY.out] at cb
   refine wpOp_step rfl (fun K hK => ?_)
   go_simp
   exact hK _ _ ⟨_, rfl, (by first | rfl | simp), grown_refl _ _, hW⟩
  ·cases ho
   intro fu act u hW hsz hL hdep
   have d0 : _ = (.agg #[.int .i64 k, .int .i64 d, .int .i64 a, .int .i64 b, .int .i64 f, .int .i64 n] : Value) := hdep { on := 0, ground := .data } (by simp) rfl _ rfl
   have d2 : _ = (.int .i64 s.pc : Value) := hdep { on := 2, ground := .data } (by simp) rfl _ rfl
   have d8 : _ = (.int .i64 x : Value) := hdep { on := 8, ground := .data } (by simp) rfl _ rfl
   have d14 : _ = (.int .i64 y : Value) := hdep { on := 14, ground := .data } (by simp) rfl _ rfl
   obtain ⟨ysl, ha, hy⟩ := hL.puts [45, 46, 47, 48, 49, 50, 51, 52, 53, 54, 55, 56, 57, 58, 59, 60, 44, 61, 62, 8, 9] (by kernel_rfl)
   have e0 : ysl 45 = (.agg #[.int .i64 k, .int .i64 d, .int .i64 a, .int .i64 b, .int .i64 f, .int .i64 n] : Value) := (hy 45).symm.trans d0
   have e2 : ysl 47 = (.int .i64 s.pc : Value) := (hy 47).symm.trans d2
   have e8 : ysl 53 = (.int .i64 x : Value) := (hy 53).symm.trans d8
   have e14 : ysl 59 = (.int .i64 y : Value) := (hy 59).symm.trans d14
   clear hdep hL hy d0 d2 d8 d14
   simp only [List.foldl, List.setIfInBounds_toArray, List.set_cons_succ, List.set_cons_zero, e0, e2, e8, e14] at ha
   subst ha
   clear e0 e2 e8 e14
   refine wpOp_step rfl (fun K hK => ?_)
   go_simp
   refine (EN.out u).mono ?_
   rintro e' u' ⟨rfl, fu2⟩
   go_simp
   exact hK _ _ ⟨_, rfl, (by first | rfl | simp), fr_grown fu2, Fr.trans hW fu2⟩
  ·cases ho
   intro fu act u hW hsz hL hdep
   have d15 : _ = (.tuple #[.int .i64 q1, .int .i64 q2] : Value) := hdep { on := 15, ground := .data } (by simp) rfl _ rfl
   obtain ⟨ysl, ha, hy⟩ := hL.puts [45, 46, 47, 48, 49, 50, 51, 52, 53, 54, 55, 56, 57, 58, 59, 60, 44, 61, 62, 8, 9] (by kernel_rfl)
   have e15 : ysl 60 = (.tuple #[.int .i64 q1, .int .i64 q2] : Value) := (hy 60).symm.trans d15
   clear hdep hL hy d15
   simp only [List.foldl, List.setIfInBounds_toArray, List.set_cons_succ, List.set_cons_zero, e15] at ha
   subst ha
   clear e15
   refine wpOp_step rfl (fun K hK => ?_)
   go_simp
   exact hK _ _ ⟨_, rfl, (by first | rfl | simp), grown_refl _ _, hW⟩
  ·cases ho
   intro fu act u hW hsz hL hdep
   have d16 : _ = (.tuple #[.int .i64 q1, .int .i64 q2] : Value) := hdep { on := 16, ground := .data } (by simp) rfl _ rfl
   obtain ⟨ysl, ha, hy⟩ := hL.puts [45, 46, 47, 48, 49, 50, 51, 52, 53, 54, 55, 56, 57, 58, 59, 60, 44, 61, 62, 8, 9] (by kernel_rfl)
   have e16 : ysl 44 = (.tuple #[.int .i64 q1, .int .i64 q2] : Value) := (hy 44).symm.trans d16
   clear hdep hL hy d16
   simp only [List.foldl, List.setIfInBounds_toArray, List.set_cons_succ, List.set_cons_zero, e16] at ha
   subst ha
   clear e16
   refine wpOp_step rfl (fun K hK => ?_)
   go_simp
   exact hK _ _ ⟨_, rfl, (by first | rfl | simp), grown_refl _ _, hW⟩
  ·cases ho
   intro fu act u hW hsz hL hdep
   have d16 : _ = (.tuple #[.int .i64 q1, .int .i64 q2] : Value) := hdep { on := 16, ground := .data } (by simp) rfl _ rfl
   obtain ⟨ysl, ha, hy⟩ := hL.puts [45, 46, 47, 48, 49, 50, 51, 52, 53, 54, 55, 56, 57, 58, 59, 60, 44, 61, 62, 8, 9] (by kernel_rfl)
   have e16 : ysl 44 = (.tuple #[.int .i64 q1, .int .i64 q2] : Value) := (hy 44).symm.trans d16
   clear hdep hL hy d16
   simp only [List.foldl, List.setIfInBounds_toArray, List.set_cons_succ, List.set_cons_zero, e16] at ha
   subst ha
   clear e16
   refine wpOp_step rfl (fun K hK => ?_)
   go_simp
   exact hK _ _ ⟨_, rfl, (by first | rfl | simp), grown_refl _ _, hW⟩
  ·cases ho
   intro fu act u hW hsz hL hdep
   have d17 : _ = (.int .i64 q1 : Value) := hdep { on := 17, ground := .data } (by simp) rfl _ rfl
   obtain ⟨ysl, ha, hy⟩ := hL.puts [45, 46, 47, 48, 49, 50, 51, 52, 53, 54, 55, 56, 57, 58, 59, 60, 44, 61, 62, 8, 9] (by kernel_rfl)
   have e17 : ysl 61 = (.int .i64 q1 : Value) := (hy 61).symm.trans d17
   clear hdep hL hy d17
   simp only [List.foldl, List.setIfInBounds_toArray, List.set_cons_succ, List.set_cons_zero, e17] at ha
   subst ha
   clear e17
   refine wpOp_step rfl (fun K hK => ?_)
   go_simp
   exact hK _ _ ⟨_, rfl, (by first | rfl | simp), grown_refl _ _, hW⟩
  ·cases ho
   intro fu act u hW hsz hL hdep
   have d18 : _ = (.int .i64 q2 : Value) := hdep { on := 18, ground := .data } (by simp) rfl _ rfl
   obtain ⟨ysl, ha, hy⟩ := hL.puts [45, 46, 47, 48, 49, 50, 51, 52, 53, 54, 55, 56, 57, 58, 59, 60, 44, 61, 62, 8, 9] (by kernel_rfl)
   have e18 : ysl 62 = (.int .i64 q2 : Value) := (hy 62).symm.trans d18
   clear hdep hL hy d18
   simp only [List.foldl, List.setIfInBounds_toArray, List.set_cons_succ, List.set_cons_zero, e18] at ha
   subst ha
   clear e18
   refine wpOp_step rfl (fun K hK => ?_)
   go_simp
   exact hK _ _ ⟨_, rfl, (by first | rfl | simp), grown_refl _ _, hW⟩
  ·exact absurd ho (by simp)
 case fin =>
  intro fu act u hW hg hL hF
  have d19 : _ = (.int .i64 q1 : Value) := hF 19 _ rfl
  have d20 : _ = (.int .i64 q2 : Value) := hF 20 _ rfl
  obtain ⟨ysl, ha, hy⟩ := hL.puts [45, 46, 47, 48, 49, 50, 51, 52, 53, 54, 55, 56, 57, 58, 59, 60, 44, 61, 62, 8, 9] (by kernel_rfl)
  have e19 : ysl 8 = (.int .i64 q1 : Value) := (hy 8).symm.trans d19
  have e20 : ysl 9 = (.int .i64 q2 : Value) := (hy 9).symm.trans d20
  clear hL hF hy d19 d20
  simp only [List.foldl, List.setIfInBounds_toArray, List.set_cons_succ, List.set_cons_zero, e19, e20] at ha
  subst ha
  clear e19 e20
  have lo1 : Lo u u00.heap.size s gr gc gm cr cc cm k d a b f n e := ⟨HLo.out.S.fr hW, HLo.out.C.fr hW, HLo.out.E.fr hW, HLo.out.Z.fr hW, HLo.out.Y.fr hW, HLo.out.O.fr hW⟩
  have hB1 := HBt.out.trans (But.of hW)
  clear HLo HBt hW hg hsz
  refine wp_seq_gen (fun v => Lo v u00.heap.size s gr gc gm cr cc cm k d a b f n e ∧ But [gr, gc, gm] u00 v) ⟨lo1, hB1⟩ ?_
  clear lo1 hB1
  clear u u0
  rintro v1 ⟨lo, hB⟩
  have HLo := Lib.hid lo
  have HBt := Lib.hid hB
  have hsz := hB.size
  obtain ⟨⟨g1, s0, s1, s2, s3, S0, S1, S2, S3⟩, ⟨i0, i1, i2, i3, i4, i5⟩, ⟨g5, e0, e1, e2, e3, e4, e5, e6, E0, E1, E2, E3, E4, E5, E6⟩, g6, g7, g8⟩ := lo
  clear hB g1 g5 g6 g7 g8
  go_wp2_with fail
  refine calls_gen (fun v => Lo v u00.heap.size s gr gc gm cr cc cm k d a b f n { e with d := d, v := q2 } ∧ But [gr, gc, gm] u00 v) ⟨⟨?_, ?_, ?_, ?_, ?_, ?_⟩, ?_⟩ ?_
  ·have qq := HLo.out.S
   (repeat with_reducible first | assumption | exact Box4.new _ _ _ _ _ _ _ (by first | rfl | simp | (simp; omega)) | refine Box4.alloc ?_ _ | refine Box4.drew ?_ | refine Box4.drewN ?_ _ | refine Box4.other ?_ _ _ _ (by omega))
  ·have qq := HLo.out.C
   (repeat with_reducible first | assumption | exact Box.new6 _ _ _ _ _ _ _ _ _ (by first | rfl | simp | (simp; omega)) | refine Box.alloc ?_ _ | refine Box.drew ?_ | refine Box.drewN ?_ _ | refine Box.other ?_ _ _ _ (by omega))
  ·have qq := HLo.out.E
   exact (qq.set3 d).set4 q2
  ·have qq := HLo.out.Z
   (repeat with_reducible first | assumption | exact Box4.new _ _ _ _ _ _ _ (by first | rfl | simp | (simp; omega)) | refine Box4.alloc ?_ _ | refine Box4.drew ?_ | refine Box4.drewN ?_ _ | refine Box4.other ?_ _ _ _ (by omega))
  ·have qq := HLo.out.Y
   (repeat with_reducible first | assumption | exact Box7.new _ _ _ _ (by first | rfl | simp | (simp; omega)) | exact Box7.newv _ _ _ _ _ _ _ _ _ _ (by first | rfl | simp | (simp; omega)) | refine Box7.alloc ?_ _ | refine Box7.drew ?_ | refine Box7.drewN ?_ _ | refine Box7.other ?_ _ _ _ (by omega))
  ·have qq := HLo.out.O
   (repeat with_reducible first | refine Own.alloc ?_ _ | refine Own.drew ?_ | refine Own.drewN ?_ _ | refine Own.other ?_ _ _ _ (by omega) (by omega) (by omega))
   exact qq
  ·have hB := HBt.out
   (repeat with_reducible first | exact But.refl _ _ | assumption | refine But.alloc ?_ _ | refine But.drew ?_ | refine But.drewN ?_ _ | refine But.set ?_ _ _ _ (by first | (left; simp; done) | (right; simp; done) | (right; omega) | (right; simp; omega)))
  clear s0 s1 s2 s3 S0 S1 S2 S3 i0 i1 i2 i3 i4 i5 e0 e1 e2 e3 e4 e5 e6 E0 E1 E2 E3 E4 E5 E6 hsz
  clear HLo HBt
  clear v1
  rintro v4 ⟨lo, hB⟩
  have hsz := hB.size
  refine (spec_l4Put s gr gc gm cr cc cm d q2 v4 lo.O HRL.out d0 d1).mono ?_
  rintro e' v5 ⟨rfl, ho', hB'⟩
  refine wp_seq_gen2 (fun v => Lo v u00.heap.size (⟨s.pc, putR s.R d q2, s.C, s.M⟩ : St) gr gc gm cr cc cm k d a b f n { e with d := d, v := q2 } ∧ But [gr, gc, gm] u00 v) ⟨⟨lo.S.but hB' (by simp; omega), lo.C.but hB' (by simp; omega), lo.E.but hB' (by simp; omega), lo.Z.but hB' (by simp; omega), lo.Y.but hB' (by simp; omega), ho'⟩, hB.trans2 hB' (fun k hk => by simp at hk; simp [hk])⟩ ?_
  clear lo hB ho' hB' hsz
  clear v4 v5
  rintro v6 ⟨lo, hB⟩
  have HLo := Lib.hid lo
  have HBt := Lib.hid hB
  have hsz := hB.size
  obtain ⟨⟨g1, s0, s1, s2, s3, S0, S1, S2, S3⟩, ⟨i0, i1, i2, i3, i4, i5⟩, ⟨g5, e0, e1, e2, e3, e4, e5, e6, E0, E1, E2, E3, E4, E5, E6⟩, g6, g7, g8⟩ := lo
  clear hB g1 g5 g6 g7 g8
  go_wp2_with fail
  refine wp_gen (fun v => Lo v u00.heap.size (⟨q1, putR s.R d q2, s.C, s.M⟩ : St) gr gc gm cr cc cm k d a b f n { e with d := d, v := q2 } ∧ But [gr, gc, gm] u00 v) ⟨⟨?_, ?_, ?_, ?_, ?_, ?_⟩, ?_⟩ ?_
  ·have qq := HLo.out.S
   exact (qq.set _ _ _ _).set0 _
  ·have qq := HLo.out.C
   (repeat with_reducible first | assumption | exact Box.new6 _ _ _ _ _ _ _ _ _ (by first | rfl | simp | (simp; omega)) | refine Box.alloc ?_ _ | refine Box.drew ?_ | refine Box.drewN ?_ _ | refine Box.other ?_ _ _ _ (by omega))
  ·have qq := HLo.out.E
   (repeat with_reducible first | assumption | exact Box7.new _ _ _ _ (by first | rfl | simp | (simp; omega)) | exact Box7.newv _ _ _ _ _ _ _ _ _ _ (by first | rfl | simp | (simp; omega)) | refine Box7.alloc ?_ _ | refine Box7.drew ?_ | refine Box7.drewN ?_ _ | refine Box7.other ?_ _ _ _ (by omega))
  ·have qq := HLo.out.Z
   (repeat with_reducible first | assumption | exact Box4.new _ _ _ _ _ _ _ (by first | rfl | simp | (simp; omega)) | refine Box4.alloc ?_ _ | refine Box4.drew ?_ | refine Box4.drewN ?_ _ | refine Box4.other ?_ _ _ _ (by omega))
  ·have qq := HLo.out.Y
   (repeat with_reducible first | assumption | exact Box7.new _ _ _ _ (by first | rfl | simp | (simp; omega)) | exact Box7.newv _ _ _ _ _ _ _ _ _ _ (by first | rfl | simp | (simp; omega)) | refine Box7.alloc ?_ _ | refine Box7.drew ?_ | refine Box7.drewN ?_ _ | refine Box7.other ?_ _ _ _ (by omega))
  ·have qq := HLo.out.O
   (repeat with_reducible first | refine Own.alloc ?_ _ | refine Own.drew ?_ | refine Own.drewN ?_ _ | refine Own.other ?_ _ _ _ (by omega) (by omega) (by omega))
   exact qq.pc q1
  ·have hB := HBt.out
   (repeat with_reducible first | exact But.refl _ _ | assumption | refine But.alloc ?_ _ | refine But.drew ?_ | refine But.drewN ?_ _ | refine But.set ?_ _ _ _ (by first | (left; simp; done) | (right; simp; done) | (right; omega) | (right; simp; omega)))
  clear s0 s1 s2 s3 S0 S1 S2 S3 i0 i1 i2 i3 i4 i5 e0 e1 e2 e3 e4 e5 e6 E0 E1 E2 E3 E4 E5 E6 hsz
  clear HLo HBt
  clear v6
  rintro v0 ⟨lo, hB⟩
  have HLo := Lib.hid lo
  have HBt := Lib.hid hB
  have hsz := hB.size
  obtain ⟨⟨g1, s0, s1, s2, s3, S0, S1, S2, S3⟩, ⟨i0, i1, i2, i3, i4, i5⟩, ⟨g5, e0, e1, e2, e3, e4, e5, e6, E0, E1, E2, E3, E4, E5, E6⟩, g6, g7, g8⟩ := lo
  clear hB g1 g5 g6 g7 g8
  have HS := Lib.hid HLo.out.S
  have HE := Lib.hid HLo.out.E
  have HZ := Lib.hid HLo.out.Z
  have HY := Lib.hid HLo.out.Y
  have HO := Lib.hid HLo.out.O
  clear s0 s1 s2 s3 S0 S1 S2 S3 i0 i1 i2 i3 i4 i5 e0 e1 e2 e3 e4 e5 e6 E0 E1 E2 E3 E4 E5 E6 hsz
  clear HLo
  refine wp_region_rows 80 3 [u00.heap.size + 3] (fun i => if i = 2 then [u00.heap.size + 3] else []) lb1_in (fun i => false) (fun i v u => match i with | 0 => v = .agg #[.int .i64 q1, .slice (some ⟨gr, 0, none⟩) 8 cr, .slice (some ⟨gc, 0, none⟩) 5 cc, .slice (some ⟨gm, 0, none⟩) 256 cm] | 1 => v = .agg #[.int .i64 ({ e with d := d, v := q2 }).pc, .int .i64 ({ e with d := d, v := q2 }).w, .int .i64 ({ e with d := d, v := q2 }).why, .int .i64 ({ e with d := d, v := q2 }).d, .int .i64 ({ e with d := d, v := q2 }).v, .int .i64 ({ e with d := d, v := q2 }).ad, .int .i64 ({ e with d := d, v := q2 }).dt] | 2 => v = undef ∧ Box4 u (u00.heap.size + 3) (.int .i64 q1) (.slice (some ⟨gr, 0, none⟩) 8 cr) (.slice (some ⟨gc, 0, none⟩) 5 cc) (.slice (some ⟨gm, 0, none⟩) 256 cm) | _ => True) ?mono (by kernel_rfl) (by kernel_rfl) rfl (by kernel_rfl) (by kernel_rfl) (by decide) ?step ?fin
  case mono =>
   intro i j v u u' hi hij hdj hsz h hB
   rcases j with _ | _ | _ | j
   ·exact h
   ·exact h
   ·refine ⟨h.1, ?_⟩
    have hB' : But [] u u' := hB.mono (fun k hk _ => lb1_out i hij k hk)
    exact h.2.but hB' (by simp)
   ·trivial
  case step =>
   intro i o ho hiz
   rcases i with _ | _ | _ | _ | i
   ·clear hiz
    cases ho
    intro act u hB hL hdep hap hnw
    replace hB := hB [u00.heap.size + 3] (fun j _ k hk => lb1_in j k hk)
    have x3 := out_val hL (k := 3) (by kernel_rfl) rfl rfl
    clear hdep hL hap hnw
    have Bx := HS.out.but hB (by simp; try omega)
    obtain ⟨lt, c0, c1, c2, c3, _, _, _, _⟩ := Bx
    refine wpOp_step rfl (fun K hK => ?_)
    go_simp
    exact hK _ _ ⟨_, rfl, (fun h => by cases h), rfl, But.refl _ _, (fun h => by cases h)⟩
   ·clear hiz
    cases ho
    intro act u hB hL hdep hap hnw
    replace hB := hB [u00.heap.size + 3] (fun j _ k hk => lb1_in j k hk)
    have x5 := out_val hL (k := 5) (by kernel_rfl) rfl rfl
    clear hdep hL hap hnw
    have Bx := HE.out.but hB (by simp; try omega)
    obtain ⟨lt, c0, c1, c2, c3, c4, c5, c6, _, _, _, _, _, _, _⟩ := Bx
    refine wpOp_step rfl (fun K hK => ?_)
    go_simp
    exact hK _ _ ⟨_, rfl, (fun h => by cases h), rfl, But.refl _ _, (fun h => by cases h)⟩
   ·clear hiz
    cases ho
    intro act u hB hL hdep hap hnw
    replace hB := hB [] lb1_out
    have e0 : act.tmps.getD 78 undef = _ := hdep { on := 0, ground := .data } (by simp) rfl _ rfl
    have x6 := out_val hL (k := 6) (by kernel_rfl) rfl rfl
    clear hdep hL hap hnw
    have Bz0 := HZ.out.but hB (by simp; try omega)
    have Bz1 := Bz0
    obtain ⟨lt, c0, c1, c2, c3, f0, f1, f2, f3⟩ := Bz1
    refine wpOp_step rfl (fun K hK => ?_)
    go_simp
    exact hK _ _ ⟨undef, rfl, (fun _ => rfl), ⟨rfl, Bz0.set (.int .i64 q1) (.slice (some ⟨gr, 0, none⟩) 8 cr) (.slice (some ⟨gc, 0, none⟩) 5 cc) (.slice (some ⟨gm, 0, none⟩) 256 cm)⟩, (But.refl _ _).set4 (u00.heap.size + 3) _ _ _ _ (.inl (by simp)), (fun h => by cases h)⟩
   ·exact absurd rfl hiz
   ·exact absurd ho (by simp)
  case fin =>
   intro act u hB hL hsf hap hnw
   have d1 := hsf 1 _ rfl (by decide)
   have d2 := hsf 2 _ rfl (by decide)
   obtain ⟨ysl, ha, hy⟩ := hL.puts [78, 79] (by kernel_rfl)
   have e1 : ysl 79 = _ := (hy 79).symm.trans d1
   obtain ⟨h2, Bz⟩ := d2
   clear hL hsf hy hap hnw d1
   simp only [List.foldl, List.setIfInBounds_toArray, List.set_cons_succ, List.set_cons_zero, e1] at ha
   subst ha
   clear e1
   have ow1 : Own u gr gc gm (⟨q1, putR s.R d q2, s.C, s.M⟩ : St) := HO.out.but hB (by simp; omega) (by simp; omega) (by simp; omega)
   have Bz1 := Bz
   obtain ⟨_, z0, z1, z2, z3, _, _, _, _⟩ := Bz1
   have By := HY.out.but hB (by simp; try omega)
   have By1 := By
   obtain ⟨yl, y0, y1, y2, y3, y4, y5, y6, x0, x1, x2, x3, x4, x5, x6⟩ := By1
   have hB2 : But [gr, gc, gm] u00 u := HBt.out.trans2 hB (fun k hk => by simp at hk ⊢; omega)
   refine wpOp_step rfl (fun K hK => ?_)
   go_simp
   refine hK _ _ ?_
   refine wp_seq_gen (fun t => Own t gr gc gm (⟨q1, putR s.R d q2, s.C, s.M⟩ : St) ∧ Box4 t (u00.heap.size + 3) (.int .i64 q1) (.slice (some ⟨gr, 0, none⟩) 8 cr) (.slice (some ⟨gc, 0, none⟩) 5 cc) (.slice (some ⟨gm, 0, none⟩) 256 cm) ∧ Box7 t (u00.heap.size + 4) ({ e with d := d, v := q2 }) ∧ But [gr, gc, gm] u00 t) ⟨?_, ?_, ?_, ?_⟩ ?_
   ·(repeat with_reducible first | refine Own.alloc ?_ _ | refine Own.drew ?_ | refine Own.drewN ?_ _ | refine Own.other ?_ _ _ _ (by omega) (by omega) (by omega))
    exact ow1
   ·(repeat with_reducible first | assumption | exact Box4.new _ _ _ _ _ _ _ (by first | rfl | simp | (simp; omega)) | refine Box4.alloc ?_ _ | refine Box4.drew ?_ | refine Box4.drewN ?_ _ | refine Box4.other ?_ _ _ _ (by omega))
   ·exact ((((((By.set0 _).set1 _).set2 _).set3 _).set4 _).set5 _).set6 _
   ·(repeat with_reducible first | exact But.refl _ _ | assumption | refine But.alloc ?_ _ | refine But.drew ?_ | refine But.drewN ?_ _ | refine But.set ?_ _ _ _ (by first | (left; simp; done) | (right; simp; done) | (right; omega) | (right; simp; omega)))
   clear z0 z1 z2 z3 y0 y1 y2 y3 y4 y5 y6 x0 x1 x2 x3 x4 x5 x6 By Bz ow1 hB2 hB yl
   rintro t ⟨ow2, bz, by', hB2⟩
   obtain ⟨_, z0, z1, z2, z3, _, _, _, _⟩ := bz
   obtain ⟨_, y0, y1, y2, y3, y4, y5, y6, _, _, _, _, _, _, _⟩ := by'
   go_wp2
   refine bodyPost_ret (v := .tuple #[.agg #[.int .i64 q1, .slice (some ⟨gr, 0, none⟩) 8 cr, .slice (some ⟨gc, 0, none⟩) 5 cc, .slice (some ⟨gm, 0, none⟩) 256 cm], .agg #[.int .i64 ({ e with d := d, v := q2 }).pc, .int .i64 ({ e with d := d, v := q2 }).w, .int .i64 ({ e with d := d, v := q2 }).why, .int .i64 ({ e with d := d, v := q2 }).d, .int .i64 ({ e with d := d, v := q2 }).v, .int .i64 ({ e with d := d, v := q2 }).ad, .int .i64 ({ e with d := d, v := q2 }).dt]]) (by simp [results, Tryd.results71, go_sem, z0, z1, z2, z3, y0, y1, y2, y3, y4, y5, y6]) rfl ?_
   exact ⟨rfl, ow2, hB2⟩

end Go.Proofs.YtbjapncfgancoaaDoor
