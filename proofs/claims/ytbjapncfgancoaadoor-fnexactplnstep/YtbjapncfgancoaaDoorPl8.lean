/- The model's step, part by part: what stops, what is put. -/
import Derived.StillTailTactics
import Derived.Test.YtbjapncfgancoaaDoorPl6
import Derived.Test.YtbjapncfgancoaaDoorPl4
namespace Go.Proofs.YtbjapncfgancoaaDoor
open Go.RowKit
set_option linter.unusedVariables false
set_option linter.unusedSimpArgs false
section
variable {P : Program} {Q : Exit → Act → World → Prop}
theorem wp_gen {c : Code} {a : Act} {W : World} (F : World → Prop) (h : F W) (k : ∀ w, F w → c.wp P Q a w) : c.wp P Q a W := k W h
theorem wpList_gen {ops : Array Oper} {rest : List Oper} {a : Act} {W : World} (F : World → Prop) (h : F W) (k : ∀ w, F w → wpList P ops Q rest a w) : wpList P ops Q rest a W := k W h
end
theorem Box4.alloc {u : World} {g : Nat} {a b c d : Value} (h : Box4 u g a b c d) (o : Obj) : Box4 (u.alloc o) g a b c d := h.fr (Fr.alloc _ _)
theorem Box4.drew {u : World} {g : Nat} {a b c d : Value} (h : Box4 u g a b c d) : Box4 u.drew g a b c d := h.but (L := []) (But.refl _ _).drew (by simp)
theorem Box4.drewN {u : World} {g : Nat} {a b c d : Value} (h : Box4 u g a b c d) (n : Nat) : Box4 (u.drewN n) g a b c d := h.but (L := []) ((But.refl _ _).drewN n) (by simp)
theorem Box4.other {u : World} {g : Nat} {a b c d : Value} (h : Box4 u g a b c d) (Z j : Nat) (v : Value) (hz : ¬ Z = g) : Box4 (u.setCell ⟨Z, j, none⟩ v) g a b c d :=
  h.but (L := [Z]) ((But.refl _ _).set Z j v (.inl (by simp))) (by simp; try omega)
theorem Box4.set0 {u : World} {g : Nat} {a b c d : Value} (h : Box4 u g a b c d) (v : Value) : Box4 (u.setCell ⟨g, 0, none⟩ v) g v b c d := by
  have c0 := h.c0
  have c1 := h.c1
  have c2 := h.c2
  have c3 := h.c3
  have f0 := h.f0
  have f1 := h.f1
  have f2 := h.f2
  have f3 := h.f3
  have hl := h.lt
  refine ⟨by simpa [World.setCell] using hl, ?_, ?_, ?_, ?_, ?_, ?_, ?_, ?_⟩
  all_goals simp [World.frozen?_setCell, World.cell?_setCell_other, World.cell?_setCell_same, c0, c1, c2, c3, f0, f1, f2, f3]
set_option maxRecDepth 8000 in
set_option maxHeartbeats 2000000 in
theorem spec_l4Stop (s : St) (gr gc gm cr cc cm : Nat) (why : Int) (u : World) (ho : Own u gr gc gm s) (hl : s.C.length = 5) (h3 : 0 ≤ s.C.getD 3 0) (h4 : s.C.getD 3 0 < 4) :
    Calls Tryd.prog 68 #[.agg #[.int .i64 s.pc, .slice (some ⟨gr, 0, none⟩) 8 cr, .slice (some ⟨gc, 0, none⟩) 5 cc, .slice (some ⟨gm, 0, none⟩) 256 cm], .int .i64 why] u fun e u' => e = .returned (.agg #[.int .i64 8, .slice (some ⟨gr, 0, none⟩) 8 cr, .slice (some ⟨gc, 0, none⟩) 5 cc, .slice (some ⟨gm, 0, none⟩) 256 cm]) ∧ Own u' gr gc gm (stopS s why) ∧ But [gc] u u' := by
  have c0 := ho.C.cel 0 (by omega)
  have c1 := ho.C.cel 1 (by omega)
  have c3 := ho.C.cel 3 (by omega)
  have f0 := ho.C.fro 0 (by omega)
  have f1 := ho.C.fro 1 (by omega)
  have f3 := ho.C.fro 3 (by omega)
  have lr := ho.R.lt
  have lc := ho.C.lt
  have lm := ho.M.lt
  have HO := Lib.hid ho
  have HL := Lib.hid hl
  have HE := Lib.hid (show stopS s why = ⟨8, s.R, ((s.C.set 0 s.pc).set 1 why).set 3 (s.C.getD 3 0 % 2 * 2), s.M⟩ by rw [stopS, stopC, Int.mul_comm])
  clear ho hl
  generalize s.C.getD 0 0 = x0 at c0
  generalize s.C.getD 1 0 = x1 at c1
  generalize s.C.getD 3 0 = x3 at c3 h3 h4 HE
  go_enter Tryd.func68, Tryd.ntmps68
  go_wp2_with fail
  refine wp_gen (fun v => Own v gr gc gm ⟨s.pc, s.R, (s.C.set 0 s.pc).set 1 why, s.M⟩ ∧ Box4 v u.heap.size (.int .i64 s.pc) (.slice (some ⟨gr, 0, none⟩) 8 cr) (.slice (some ⟨gc, 0, none⟩) 5 cc) (.slice (some ⟨gm, 0, none⟩) 256 cm) ∧ Box4 v (u.heap.size + 1) (.int .i64 0) (.slice none 0 0) (.slice none 0 0) (.slice none 0 0) ∧ But [gc] u v ∧ v.cell? ⟨gc, 3, none⟩ = some (.int .i64 x3)) ⟨?_, ?_, ?_, ?_, ?_⟩ ?_
  · (repeat with_reducible first | refine Own.alloc ?_ _ | refine Own.drew ?_ | refine Own.drewN ?_ _ | refine Own.other ?_ _ _ _ (by omega) (by omega) (by omega))
    exact (HO.out.setC 0 s.pc (by rw [HL.out]; decide) s.pc).setC 1 why (by simp [HL.out]) s.pc
  · (repeat with_reducible first | assumption | exact Box4.new _ _ _ _ _ _ _ (by first | rfl | simp | (simp; omega)) | refine Box4.alloc ?_ _ | refine Box4.drew ?_ | refine Box4.drewN ?_ _ | refine Box4.other ?_ _ _ _ (by omega))
  · (repeat with_reducible first | assumption | exact Box4.new _ _ _ _ _ _ _ (by first | rfl | simp | (simp; omega)) | refine Box4.alloc ?_ _ | refine Box4.drew ?_ | refine Box4.drewN ?_ _ | refine Box4.other ?_ _ _ _ (by omega))
  · (repeat with_reducible first | exact But.refl _ _ | assumption | refine But.alloc ?_ _ | refine But.drew ?_ | refine But.drewN ?_ _ | refine But.set ?_ _ _ _ (by first | (left; simp; done) | (right; simp; done) | (right; omega) | (right; simp; omega)))
  · simp [go_sem, c3, lc]
  clear c0 c1 c3 f0 f1 f3
  rintro v ⟨ho, b1, b2, hB, c3⟩
  have f3 := ho.C.fro 3 (by simp [HL.out])
  have HO1 := Lib.hid ho
  have HB1 := Lib.hid hB
  have HX1 := Lib.hid b1
  have HX2 := Lib.hid b2
  have hs := hB.size
  obtain ⟨bl, p0, p1, p2, p3, q0, q1, q2, q3⟩ := b1
  obtain ⟨zl, z0, z1, z2, z3, y0, y1, y2, y3⟩ := b2
  clear ho hB
  go_still_tail 8, (by kernel_rfl)
  change wpList _ _ _ _ _ v.drew
  refine wpList_gen (fun t => Own t gr gc gm ⟨s.pc, s.R, (s.C.set 0 s.pc).set 1 why, s.M⟩ ∧ Box4 t u.heap.size (.int .i64 s.pc) (.slice (some ⟨gr, 0, none⟩) 8 cr) (.slice (some ⟨gc, 0, none⟩) 5 cc) (.slice (some ⟨gm, 0, none⟩) 256 cm) ∧ Box4 t (u.heap.size + 1) (.int .i64 0) (.slice none 0 0) (.slice none 0 0) (.slice none 0 0) ∧ But [gc] u t ∧ t.cell? ⟨gc, 3, none⟩ = some (.int .i64 x3)) ⟨HO1.out.drew, HX1.out.drew, HX2.out.drew, HB1.out.drew, c3⟩ ?_
  clear p0 p1 p2 p3 q0 q1 q2 q3 z0 z1 z2 z3 y0 y1 y2 y3 HO1 HX1 HX2 HB1 c3 f3 hs bl zl
  rintro t ⟨ho, b1, b2, hB, c3⟩
  have f3 := ho.C.fro 3 (by simp [HL.out])
  have HO1 := Lib.hid ho
  have HB1 := Lib.hid hB
  have HX1 := Lib.hid b1
  have HX2 := Lib.hid b2
  have hs := hB.size
  obtain ⟨bl, p0, p1, p2, p3, q0, q1, q2, q3⟩ := b1
  obtain ⟨zl, z0, z1, z2, z3, y0, y1, y2, y3⟩ := b2
  have n1 : ¬ gc = u.heap.size := by omega
  have n2 : ¬ u.heap.size = gc := by omega
  have n3 : ¬ gc = u.heap.size + 1 := by omega
  have n4 : ¬ u.heap.size + 1 = gc := by omega
  clear ho hB
  go_wp2
  refine bodyPost_ret (v := .agg #[.int .i64 8, .slice (some ⟨gr, 0, none⟩) 8 cr, .slice (some ⟨gc, 0, none⟩) 5 cc, .slice (some ⟨gm, 0, none⟩) 256 cm]) (by simp [results, Tryd.results68, go_sem, z0, z1, z2, z3, p0, p1, p2, p3, n1, n2, n3, n4]) rfl ⟨rfl, ?_, ?_⟩
  · rw [HE.out]
    (repeat with_reducible first | refine Own.alloc ?_ _ | refine Own.drew ?_ | refine Own.drewN ?_ _ | refine Own.other ?_ _ _ _ (by omega) (by omega) (by omega))
    exact HO1.out.setC 3 _ (by simp [HL.out]) 8
  · have hB := HB1.out
    (repeat with_reducible first | exact But.refl _ _ | assumption | refine But.alloc ?_ _ | refine But.drew ?_ | refine But.drewN ?_ _ | refine But.set ?_ _ _ _ (by first | (left; simp; done) | (right; simp; done) | (right; omega) | (right; simp; omega)))
set_option maxRecDepth 8000 in
set_option maxHeartbeats 2000000 in
theorem spec_l4Put (s : St) (gr gc gm cr cc cm : Nat) (d n : Int) (u : World) (ho : Own u gr gc gm s) (hl : s.R.length = 8) (d0 : 0 ≤ d) (d1 : d ≤ 7) :
    Calls Tryd.prog 89 #[.agg #[.int .i64 s.pc, .slice (some ⟨gr, 0, none⟩) 8 cr, .slice (some ⟨gc, 0, none⟩) 5 cc, .slice (some ⟨gm, 0, none⟩) 256 cm], .int .i64 d, .int .i64 n] u fun e u' => e = .returned (.agg #[.int .i64 s.pc, .slice (some ⟨gr, 0, none⟩) 8 cr, .slice (some ⟨gc, 0, none⟩) 5 cc, .slice (some ⟨gm, 0, none⟩) 256 cm]) ∧ Own u' gr gc gm ⟨s.pc, putR s.R d n, s.C, s.M⟩ ∧ But [gr] u u' := by
  have lr := ho.R.lt
  have lc := ho.C.lt
  have lm := ho.M.lt
  have n1 : ¬ gr = u.heap.size := by omega
  have n2 : ¬ u.heap.size = gr := by omega
  have n3 : ¬ gr = u.heap.size + 1 := by omega
  have n4 : ¬ u.heap.size + 1 = gr := by omega
  have HO := Lib.hid ho
  have HL := Lib.hid hl
  by_cases hd : d = 0
  · subst hd
    have HE := Lib.hid (show putR s.R 0 n = s.R from if_pos rfl)
    clear ho hl
    go_enter Tryd.func89, Tryd.ntmps89
    go_wp2
    refine bodyPost_ret (v := .agg #[.int .i64 s.pc, .slice (some ⟨gr, 0, none⟩) 8 cr, .slice (some ⟨gc, 0, none⟩) 5 cc, .slice (some ⟨gm, 0, none⟩) 256 cm]) (by simp [results, Tryd.results89, go_sem]) rfl ⟨rfl, ?_, ?_⟩
    · rw [HE.out]
      (repeat with_reducible first | refine Own.alloc ?_ _ | refine Own.drew ?_ | refine Own.drewN ?_ _ | refine Own.other ?_ _ _ _ (by omega) (by omega) (by omega))
      exact HO.out
    · (repeat with_reducible first | exact But.refl _ _ | assumption | refine But.alloc ?_ _ | refine But.drew ?_ | refine But.drewN ?_ _ | refine But.set ?_ _ _ _ (by first | (left; simp; done) | (right; simp; done) | (right; omega) | (right; simp; omega)))
  · have HE := Lib.hid (show putR s.R d n = s.R.set d.toNat n from if_neg hd)
    have c0 := ho.R.cel d.toNat (by omega)
    have f0 := ho.R.fro d.toNat (by omega)
    have hd' : 0 < d := by omega
    generalize s.R.getD d.toNat 0 = x0 at c0
    clear ho hl hd
    go_enter Tryd.func89, Tryd.ntmps89
    go_wp2
    refine bodyPost_ret (v := .agg #[.int .i64 s.pc, .slice (some ⟨gr, 0, none⟩) 8 cr, .slice (some ⟨gc, 0, none⟩) 5 cc, .slice (some ⟨gm, 0, none⟩) 256 cm]) (by simp [results, Tryd.results89, go_sem, n1, n2, n3, n4]) rfl ⟨rfl, ?_, ?_⟩
    · rw [HE.out]
      (repeat with_reducible first | refine Own.alloc ?_ _ | refine Own.drew ?_ | refine Own.drewN ?_ _ | refine Own.other ?_ _ _ _ (by omega) (by omega) (by omega))
      exact HO.out.setR d.toNat n (by rw [HL.out]; omega) s.pc
    · (repeat with_reducible first | exact But.refl _ _ | assumption | refine But.alloc ?_ _ | refine But.drew ?_ | refine But.drewN ?_ _ | refine But.set ?_ _ _ _ (by first | (left; simp; done) | (right; simp; done) | (right; omega) | (right; simp; omega)))

end Go.Proofs.YtbjapncfgancoaaDoor
