/- PlnStep of the model; PlnStep of the program where the machine is not ok. PlnStep of a machine that may be anything, of the program and of the model; what was done, compared. -/
import Derived.Test.YtbjapncfgancoaaDoorSx
import Derived.Test.YtbjapncfgancoaaDoorPl15
import Derived.Test.YtbjapncfgancoaaDoorPres
namespace Go.Proofs.YtbjapncfgancoaaDoor
open Go.RowKit
set_option linter.unusedVariables false
set_option linter.unusedSimpArgs false
set_option maxRecDepth 8000 in
set_option maxHeartbeats 4000000 in
theorem impl_PlnStep_no (s : St) (aR aC aM : Option Addr) (cR cC cM : Nat) (ring : Bool) (w : World) (h : SrcS w s aR aC aM) (hf : Few s) (hk : okS s = false) :
    Calls Tryd.prog 22 #[.agg #[.int .i64 (s).pc, .slice aR (s).R.length cR, .slice aC (s).C.length cC, .slice aM (s).M.length cM], .bool ring] w fun e w' => e = .returned (.tuple #[.agg #[.int .i64 0, .slice none 0 0, .slice none 0 0, .slice none 0 0], .agg #[.int .i64 0, .int .i64 0, .int .i64 0, .int .i64 0, .int .i64 0, .int .i64 0, .int .i64 0]]) ∧ Fr w w' := by
  have F3 : Fr w (((w.alloc (.cells #[.int .i64 s.pc, .slice aR s.R.length cR, .slice aC s.C.length cC, .slice aM s.M.length cM] 26)).alloc (.cells #[.int .i64 0, .slice none 0 0, .slice none 0 0, .slice none 0 0] 26)).alloc (.cells #[.int .i64 0, .int .i64 0, .int .i64 0, .int .i64 0, .int .i64 0, .int .i64 0, .int .i64 0] 28)) := by
    (repeat' first | (with_reducible exact Below.refl _ _) | (with_reducible assumption) | ((with_reducible refine Below.setCell ?_ ?hb _); (case hb => first | exact Nat.le_refl _ | (simp; done) | (simp; omega) | omega)) | ((with_reducible refine Below.alloc ?_ ?hb _); (case hb => first | exact Nat.le_refl _ | (simp; done) | (simp; omega) | omega)) | (with_reducible refine Below.drew ?_))
  have E := Lib.hid (impl_PlnOk s aR aC aM cR cC cM _ (h.fr F3) hf)
  have HF := Lib.hid F3
  have HS := Lib.hid h
  have b1 : Cel (((w.alloc (.cells #[.int .i64 s.pc, .slice aR s.R.length cR, .slice aC s.C.length cC, .slice aM s.M.length cM] 26)).alloc (.cells #[.int .i64 0, .slice none 0 0, .slice none 0 0, .slice none 0 0] 26)).alloc (.cells #[.int .i64 0, .int .i64 0, .int .i64 0, .int .i64 0, .int .i64 0, .int .i64 0, .int .i64 0] 28)) w.heap.size [.int .i64 s.pc, .slice aR s.R.length cR, .slice aC s.C.length cC, .slice aM s.M.length cM] := by
    (repeat (first | (with_reducible assumption) | (with_reducible exact Cel.new _ _ _ _ (by first | rfl | omega | (simp; done) | (simp; omega))) | (with_reducible refine Cel.alloc ?_ _) | (with_reducible refine Cel.drew ?_) | (with_reducible refine Cel.other ?_ _ _ _ (by omega))))
  have b2 : Cel (((w.alloc (.cells #[.int .i64 s.pc, .slice aR s.R.length cR, .slice aC s.C.length cC, .slice aM s.M.length cM] 26)).alloc (.cells #[.int .i64 0, .slice none 0 0, .slice none 0 0, .slice none 0 0] 26)).alloc (.cells #[.int .i64 0, .int .i64 0, .int .i64 0, .int .i64 0, .int .i64 0, .int .i64 0, .int .i64 0] 28)) (w.heap.size + 1) [.int .i64 0, .slice none 0 0, .slice none 0 0, .slice none 0 0] := by
    (repeat (first | (with_reducible assumption) | (with_reducible exact Cel.new _ _ _ _ (by first | rfl | omega | (simp; done) | (simp; omega))) | (with_reducible refine Cel.alloc ?_ _) | (with_reducible refine Cel.drew ?_) | (with_reducible refine Cel.other ?_ _ _ _ (by omega))))
  have b3 : Cel (((w.alloc (.cells #[.int .i64 s.pc, .slice aR s.R.length cR, .slice aC s.C.length cC, .slice aM s.M.length cM] 26)).alloc (.cells #[.int .i64 0, .slice none 0 0, .slice none 0 0, .slice none 0 0] 26)).alloc (.cells #[.int .i64 0, .int .i64 0, .int .i64 0, .int .i64 0, .int .i64 0, .int .i64 0, .int .i64 0] 28)) (w.heap.size + 2) [.int .i64 0, .int .i64 0, .int .i64 0, .int .i64 0, .int .i64 0, .int .i64 0, .int .i64 0] := by
    (repeat (first | (with_reducible assumption) | (with_reducible exact Cel.new _ _ _ _ (by first | rfl | omega | (simp; done) | (simp; omega))) | (with_reducible refine Cel.alloc ?_ _) | (with_reducible refine Cel.drew ?_) | (with_reducible refine Cel.other ?_ _ _ _ (by omega))))
  have HB1 := Lib.hid b1
  have HB2 := Lib.hid b2
  have HB3 := Lib.hid b3
  have HSZ := Lib.hid (show w.heap.size + 3 ≤ (((w.alloc (.cells #[.int .i64 s.pc, .slice aR s.R.length cR, .slice aC s.C.length cC, .slice aM s.M.length cM] 26)).alloc (.cells #[.int .i64 0, .slice none 0 0, .slice none 0 0, .slice none 0 0] 26)).alloc (.cells #[.int .i64 0, .int .i64 0, .int .i64 0, .int .i64 0, .int .i64 0, .int .i64 0, .int .i64 0] 28)).heap.size by simp)
  clear F3 h b1 b2 b3
  go_enter Tryd.func22, Tryd.ntmps22
  go_wp2_with fail
  simp only [Nat.add_assoc, Nat.reduceAdd]
  refine E.out.mono ?_
  rintro e u1 ⟨rfl, f1⟩
  have HF1 := Lib.hid (HF.out.trans f1)
  have HX1 := Lib.hid (HB1.out.fr f1)
  have HX2 := Lib.hid (HB2.out.fr f1)
  have HX3 := Lib.hid (HB3.out.fr f1)
  have hsz := f1.size
  have hs3 := HSZ.out
  have hs1 : w.heap.size + 3 ≤ u1.heap.size := by omega
  clear f1 E HF HB1 HB2 HB3 HSZ hsz hs3
  generalize (((w.alloc (.cells #[.int .i64 s.pc, .slice aR s.R.length cR, .slice aC s.C.length cC, .slice aM s.M.length cM] 26)).alloc (.cells #[.int .i64 0, .slice none 0 0, .slice none 0 0, .slice none 0 0] 26)).alloc (.cells #[.int .i64 0, .int .i64 0, .int .i64 0, .int .i64 0, .int .i64 0, .int .i64 0, .int .i64 0] 28)) = u0 at *
  rw [hk]
  have cx0 := HX2.out.cel 0 (by simp)
  simp only [List.getD_cons_zero, List.getD_cons_succ] at cx0
  have cx1 := HX2.out.cel 1 (by simp)
  simp only [List.getD_cons_zero, List.getD_cons_succ] at cx1
  have cx2 := HX2.out.cel 2 (by simp)
  simp only [List.getD_cons_zero, List.getD_cons_succ] at cx2
  have cx3 := HX2.out.cel 3 (by simp)
  simp only [List.getD_cons_zero, List.getD_cons_succ] at cx3
  have dx0 := HX2.out.fro 0 (by simp)
  have dx1 := HX2.out.fro 1 (by simp)
  have dx2 := HX2.out.fro 2 (by simp)
  have dx3 := HX2.out.fro 3 (by simp)
  have cy0 := HX3.out.cel 0 (by simp)
  simp only [List.getD_cons_zero, List.getD_cons_succ] at cy0
  have cy1 := HX3.out.cel 1 (by simp)
  simp only [List.getD_cons_zero, List.getD_cons_succ] at cy1
  have cy2 := HX3.out.cel 2 (by simp)
  simp only [List.getD_cons_zero, List.getD_cons_succ] at cy2
  have cy3 := HX3.out.cel 3 (by simp)
  simp only [List.getD_cons_zero, List.getD_cons_succ] at cy3
  have cy4 := HX3.out.cel 4 (by simp)
  simp only [List.getD_cons_zero, List.getD_cons_succ] at cy4
  have cy5 := HX3.out.cel 5 (by simp)
  simp only [List.getD_cons_zero, List.getD_cons_succ] at cy5
  have cy6 := HX3.out.cel 6 (by simp)
  simp only [List.getD_cons_zero, List.getD_cons_succ] at cy6
  have dy0 := HX3.out.fro 0 (by simp)
  have dy1 := HX3.out.fro 1 (by simp)
  have dy2 := HX3.out.fro 2 (by simp)
  have dy3 := HX3.out.fro 3 (by simp)
  have dy4 := HX3.out.fro 4 (by simp)
  have dy5 := HX3.out.fro 5 (by simp)
  have dy6 := HX3.out.fro 6 (by simp)
  go_wp2
  refine bodyPost_ret (v := .tuple #[.agg #[.int .i64 0, .slice none 0 0, .slice none 0 0, .slice none 0 0], .agg #[.int .i64 0, .int .i64 0, .int .i64 0, .int .i64 0, .int .i64 0, .int .i64 0, .int .i64 0]]) (by simp [results, Tryd.results22, go_sem, cx0, cx1, cx2, cx3, cy0, cy1, cy2, cy3, cy4, cy5, cy6]) rfl ⟨rfl, ?_⟩
  refine fr_but (L := [w.heap.size + 1, w.heap.size + 2]) HF1.out ?_ (fun k hk => by simp at hk; omega)
  (repeat with_reducible first | exact But.refl _ _ | assumption | refine But.alloc ?_ _ | refine But.drew ?_ | refine But.drewN ?_ _ | refine But.set ?_ _ _ _ (by first | (left; simp; done) | (right; simp; done) | (right; omega) | (right; simp; omega)))
set_option maxRecDepth 8000 in
set_option maxHeartbeats 8000000 in
theorem spec_PlnStep (s : St) (aR aC aM : Option Addr) (cR cC cM : Nat) (ring : Bool) (w : World) (h : SrcS w s aR aC aM) (hf : Few s) (hk : OkS s) :
    Calls Tryd.prog 20 #[.agg #[.int .i64 (s).pc, .slice aR (s).R.length cR, .slice aC (s).C.length cC, .slice aM (s).M.length cM], .bool ring] w (PstP s ring w) := by
  unfold PstP
  obtain ⟨s2, hs2⟩ : ∃ x, (stepS s ring).1 = x := ⟨_, rfl⟩
  obtain ⟨e2, he2⟩ : ∃ x, (stepS s ring).2 = x := ⟨_, rfl⟩
  rw [hs2, he2]
  have HS2 := Lib.hid hs2
  have HE2 := Lib.hid he2
  have HK2 := Lib.hid (show OkS s2 by rw [← hs2]; exact step_ok hk ring)
  clear hs2 he2
  have F3 : Fr w (((w.alloc (.cells #[.int .i64 s.pc, .slice aR s.R.length cR, .slice aC s.C.length cC, .slice aM s.M.length cM] 26)).alloc (.cells #[.int .i64 0, .slice none 0 0, .slice none 0 0, .slice none 0 0] 26)).alloc (.cells #[.int .i64 0, .int .i64 0, .int .i64 0, .int .i64 0, .int .i64 0, .int .i64 0, .int .i64 0] 28)) := by
    (repeat' first | (with_reducible exact Below.refl _ _) | (with_reducible assumption) | ((with_reducible refine Below.setCell ?_ ?hb _); (case hb => first | exact Nat.le_refl _ | (simp; done) | (simp; omega) | omega)) | ((with_reducible refine Below.alloc ?_ ?hb _); (case hb => first | exact Nat.le_refl _ | (simp; done) | (simp; omega) | omega)) | (with_reducible refine Below.drew ?_))
  have E := Lib.hid (spec_PlnOk s aR aC aM cR cC cM _ (h.fr F3) hf)
  have HF := Lib.hid F3
  have HS := Lib.hid h
  have b1 : Cel (((w.alloc (.cells #[.int .i64 s.pc, .slice aR s.R.length cR, .slice aC s.C.length cC, .slice aM s.M.length cM] 26)).alloc (.cells #[.int .i64 0, .slice none 0 0, .slice none 0 0, .slice none 0 0] 26)).alloc (.cells #[.int .i64 0, .int .i64 0, .int .i64 0, .int .i64 0, .int .i64 0, .int .i64 0, .int .i64 0] 28)) w.heap.size [.int .i64 s.pc, .slice aR s.R.length cR, .slice aC s.C.length cC, .slice aM s.M.length cM] := by
    (repeat (first | (with_reducible assumption) | (with_reducible exact Cel.new _ _ _ _ (by first | rfl | omega | (simp; done) | (simp; omega))) | (with_reducible refine Cel.alloc ?_ _) | (with_reducible refine Cel.drew ?_) | (with_reducible refine Cel.other ?_ _ _ _ (by omega))))
  have b2 : Cel (((w.alloc (.cells #[.int .i64 s.pc, .slice aR s.R.length cR, .slice aC s.C.length cC, .slice aM s.M.length cM] 26)).alloc (.cells #[.int .i64 0, .slice none 0 0, .slice none 0 0, .slice none 0 0] 26)).alloc (.cells #[.int .i64 0, .int .i64 0, .int .i64 0, .int .i64 0, .int .i64 0, .int .i64 0, .int .i64 0] 28)) (w.heap.size + 1) [.int .i64 0, .slice none 0 0, .slice none 0 0, .slice none 0 0] := by
    (repeat (first | (with_reducible assumption) | (with_reducible exact Cel.new _ _ _ _ (by first | rfl | omega | (simp; done) | (simp; omega))) | (with_reducible refine Cel.alloc ?_ _) | (with_reducible refine Cel.drew ?_) | (with_reducible refine Cel.other ?_ _ _ _ (by omega))))
  have b3 : Cel (((w.alloc (.cells #[.int .i64 s.pc, .slice aR s.R.length cR, .slice aC s.C.length cC, .slice aM s.M.length cM] 26)).alloc (.cells #[.int .i64 0, .slice none 0 0, .slice none 0 0, .slice none 0 0] 26)).alloc (.cells #[.int .i64 0, .int .i64 0, .int .i64 0, .int .i64 0, .int .i64 0, .int .i64 0, .int .i64 0] 28)) (w.heap.size + 2) [.int .i64 0, .int .i64 0, .int .i64 0, .int .i64 0, .int .i64 0, .int .i64 0, .int .i64 0] := by
    (repeat (first | (with_reducible assumption) | (with_reducible exact Cel.new _ _ _ _ (by first | rfl | omega | (simp; done) | (simp; omega))) | (with_reducible refine Cel.alloc ?_ _) | (with_reducible refine Cel.drew ?_) | (with_reducible refine Cel.other ?_ _ _ _ (by omega))))
  have HB1 := Lib.hid b1
  have HB2 := Lib.hid b2
  have HB3 := Lib.hid b3
  have HSZ := Lib.hid (show w.heap.size + 3 ≤ (((w.alloc (.cells #[.int .i64 s.pc, .slice aR s.R.length cR, .slice aC s.C.length cC, .slice aM s.M.length cM] 26)).alloc (.cells #[.int .i64 0, .slice none 0 0, .slice none 0 0, .slice none 0 0] 26)).alloc (.cells #[.int .i64 0, .int .i64 0, .int .i64 0, .int .i64 0, .int .i64 0, .int .i64 0, .int .i64 0] 28)).heap.size by simp)
  clear F3 h b1 b2 b3
  go_enter Tryd.func20, Tryd.ntmps20
  go_wp2_with fail
  simp only [Nat.add_assoc, Nat.reduceAdd]
  refine E.out.mono ?_
  rintro e u1 ⟨rfl, f1⟩
  have HF1 := Lib.hid (HF.out.trans f1)
  have HX1 := Lib.hid (HB1.out.fr f1)
  have HX2 := Lib.hid (HB2.out.fr f1)
  have HX3 := Lib.hid (HB3.out.fr f1)
  have hsz := f1.size
  have hs3 := HSZ.out
  have hs1 : w.heap.size + 3 ≤ u1.heap.size := by omega
  clear f1 E HF HB1 HB2 HB3 HSZ hsz hs3
  generalize (((w.alloc (.cells #[.int .i64 s.pc, .slice aR s.R.length cR, .slice aC s.C.length cC, .slice aM s.M.length cM] 26)).alloc (.cells #[.int .i64 0, .slice none 0 0, .slice none 0 0, .slice none 0 0] 26)).alloc (.cells #[.int .i64 0, .int .i64 0, .int .i64 0, .int .i64 0, .int .i64 0, .int .i64 0, .int .i64 0] 28)) = u0 at *
  rw [(okS_iff s).2 hk]
  have HK := Lib.hid hk
  clear hk
  have cz0 := HX1.out.cel 0 (by simp)
  simp only [List.getD_cons_zero, List.getD_cons_succ] at cz0
  have cz1 := HX1.out.cel 1 (by simp)
  simp only [List.getD_cons_zero, List.getD_cons_succ] at cz1
  have cz2 := HX1.out.cel 2 (by simp)
  simp only [List.getD_cons_zero, List.getD_cons_succ] at cz2
  have cz3 := HX1.out.cel 3 (by simp)
  simp only [List.getD_cons_zero, List.getD_cons_succ] at cz3
  go_wp2_with fail
  refine (spec_l4Copy s aR aC aM cR cC cM u1 (HS.out.fr HF1.out) HK.out.Rl HK.out.Cl HK.out.Ml).mono ?_
  rintro e u2 ⟨x1, x2, x3, xr, xc, xm, rfl, hox, hl1, hl2, hl3, f2⟩
  have HF2 := Lib.hid (HF1.out.trans f2)
  have HY2 := Lib.hid (HX2.out.fr f2)
  have HY3 := Lib.hid (HX3.out.fr f2)
  have HO := Lib.hid hox
  have hsz2 := f2.size
  clear cz0 cz1 cz2 cz3 f2 HX1 HX2 HX3 HF1 hox
  go_wp2_with fail
  refine (spec_l4Step s x1 x2 x3 xr xc xm ring u2 HO.out HK.out).mono ?_
  rintro e u3 ⟨rfl, ho3, hb3⟩
  rw [HS2.out] at ho3
  simp only [HS2.out, HE2.out]
  have HF3 := Lib.hid (fr_but HF2.out hb3 (fun k hk => by simp at hk; omega))
  have HZ2 := Lib.hid (HY2.out.but hb3 (by simp; omega))
  have HZ3 := Lib.hid (HY3.out.but hb3 (by simp; omega))
  have HO3 := Lib.hid ho3
  have hsz3 := hb3.size
  have m1 := ho3.R.lt
  have m2 := ho3.C.lt
  have m3 := ho3.M.lt
  clear hb3 ho3 HF2 HY2 HY3 HO
  go_upto_region 4 with fail
  refine wp_gen (fun v9 => Cel v9 u3.heap.size [.int .i64 s2.pc, .slice (some ⟨x1, 0, none⟩) 8 xr, .slice (some ⟨x2, 0, none⟩) 5 xc, .slice (some ⟨x3, 0, none⟩) 256 xm] ∧ Cel v9 (u3.heap.size + 1) [.int .i64 e2.pc, .int .i64 e2.w, .int .i64 e2.why, .int .i64 e2.d, .int .i64 e2.v, .int .i64 e2.ad, .int .i64 e2.dt] ∧ Cel v9 (w.heap.size + 1) [.int .i64 0, .slice none 0 0, .slice none 0 0, .slice none 0 0] ∧ Cel v9 (w.heap.size + 2) [.int .i64 0, .int .i64 0, .int .i64 0, .int .i64 0, .int .i64 0, .int .i64 0, .int .i64 0] ∧ Own v9 x1 x2 x3 s2 ∧ Fr w v9) ⟨?_, ?_, ?_, ?_, ?_, ?_⟩ ?_
  · (repeat (first | (with_reducible assumption) | (with_reducible exact Cel.new _ _ _ _ (by first | rfl | omega | (simp; done) | (simp; omega))) | (with_reducible refine Cel.alloc ?_ _) | (with_reducible refine Cel.drew ?_) | (with_reducible refine Cel.other ?_ _ _ _ (by omega))))
  · (repeat (first | (with_reducible assumption) | (with_reducible exact Cel.new _ _ _ _ (by first | rfl | omega | (simp; done) | (simp; omega))) | (with_reducible refine Cel.alloc ?_ _) | (with_reducible refine Cel.drew ?_) | (with_reducible refine Cel.other ?_ _ _ _ (by omega))))
  · have q := HZ2.out
    (repeat (first | (with_reducible assumption) | (with_reducible exact Cel.new _ _ _ _ (by first | rfl | omega | (simp; done) | (simp; omega))) | (with_reducible refine Cel.alloc ?_ _) | (with_reducible refine Cel.drew ?_) | (with_reducible refine Cel.other ?_ _ _ _ (by omega))))
  · have q := HZ3.out
    (repeat (first | (with_reducible assumption) | (with_reducible exact Cel.new _ _ _ _ (by first | rfl | omega | (simp; done) | (simp; omega))) | (with_reducible refine Cel.alloc ?_ _) | (with_reducible refine Cel.drew ?_) | (with_reducible refine Cel.other ?_ _ _ _ (by omega))))
  · have q := HO3.out
    (repeat (first | (with_reducible assumption) | (with_reducible refine Own.alloc ?_ _)))
  · exact HF3.out.trans (by (repeat' first | (with_reducible exact Below.refl _ _) | (with_reducible assumption) | ((with_reducible refine Below.setCell ?_ ?hb _); (case hb => first | exact Nat.le_refl _ | (simp; done) | (simp; omega) | omega)) | ((with_reducible refine Below.alloc ?_ ?hb _); (case hb => first | exact Nat.le_refl _ | (simp; done) | (simp; omega) | omega)) | (with_reducible refine Below.drew ?_)))
  rintro u4 ⟨z1, z2, z3, z4, z5, z6⟩
  have HX6 := Lib.hid z1
  have HX7 := Lib.hid z2
  have HX2 := Lib.hid z3
  have HX3 := Lib.hid z4
  have HOX := Lib.hid z5
  have HF4 := Lib.hid z6
  have l1 := z2.lt
  clear z1 z2 z3 z4 z5 z6 HZ2 HZ3 HO3 HF3
  refine wp_region_lots 23 (fun i => if i = 3 then [w.heap.size + 1] else if i = 4 then [w.heap.size + 2] else []) (fun _ _ => True) (fun i v9 u => match i with | 0 => v9 = .agg #[.int .i64 s2.pc, .slice (some ⟨x1, 0, none⟩) 8 xr, .slice (some ⟨x2, 0, none⟩) 5 xc, .slice (some ⟨x3, 0, none⟩) 256 xm] | 1 => ∃ k1 k2 k3 kr kc km, v9 = .agg #[.int .i64 s2.pc, .slice (some ⟨k1, 0, none⟩) 8 kr, .slice (some ⟨k2, 0, none⟩) 5 kc, .slice (some ⟨k3, 0, none⟩) 256 km] ∧ Own u k1 k2 k3 s2 ∧ (u4.heap.size ≤ k1 ∧ u4.heap.size ≤ k2 ∧ u4.heap.size ≤ k3) | 2 => v9 = .agg #[.int .i64 e2.pc, .int .i64 e2.w, .int .i64 e2.why, .int .i64 e2.d, .int .i64 e2.v, .int .i64 e2.ad, .int .i64 e2.dt] | 3 => ∃ k1 k2 k3 kr kc km, Cel u (w.heap.size + 1) [.int .i64 s2.pc, .slice (some ⟨k1, 0, none⟩) 8 kr, .slice (some ⟨k2, 0, none⟩) 5 kc, .slice (some ⟨k3, 0, none⟩) 256 km] ∧ Own u k1 k2 k3 s2 ∧ (u4.heap.size ≤ k1 ∧ u4.heap.size ≤ k2 ∧ u4.heap.size ≤ k3) | 4 => Cel u (w.heap.size + 2) [.int .i64 e2.pc, .int .i64 e2.w, .int .i64 e2.why, .int .i64 e2.d, .int .i64 e2.v, .int .i64 e2.ad, .int .i64 e2.dt] | _ => True) ?mono (by kernel_rfl) (by kernel_rfl) rfl (by kernel_rfl) trivial ?step ?fin
  case mono =>
    intro i j v9 u u' hij hsz h hB
    rcases j with _ | _ | _ | _ | _ | j
    · exact h
    · obtain ⟨k1, k2, k3, kr, kc, km, e, ho, h1, h2, h3⟩ := h
      exact ⟨k1, k2, k3, kr, kc, km, e, ho.but hB (fun hm => by
        have hm2 : k1 ∈ (if i = 3 then [w.heap.size + 1] else if i = 4 then [w.heap.size + 2] else []) := hm
        by_cases y3 : i = 3
        · subst y3; simp at hm2; omega
        by_cases y4 : i = 4
        · subst y4; simp at hm2; omega
        rw [if_neg y3, if_neg y4] at hm2
        cases hm2) (fun hm => by
        have hm2 : k2 ∈ (if i = 3 then [w.heap.size + 1] else if i = 4 then [w.heap.size + 2] else []) := hm
        by_cases y3 : i = 3
        · subst y3; simp at hm2; omega
        by_cases y4 : i = 4
        · subst y4; simp at hm2; omega
        rw [if_neg y3, if_neg y4] at hm2
        cases hm2) (fun hm => by
        have hm2 : k3 ∈ (if i = 3 then [w.heap.size + 1] else if i = 4 then [w.heap.size + 2] else []) := hm
        by_cases y3 : i = 3
        · subst y3; simp at hm2; omega
        by_cases y4 : i = 4
        · subst y4; simp at hm2; omega
        rw [if_neg y3, if_neg y4] at hm2
        cases hm2), h1, h2, h3⟩
    · exact h
    · obtain ⟨k1, k2, k3, kr, kc, km, e, ho, h1, h2, h3⟩ := h
      exact ⟨k1, k2, k3, kr, kc, km, e.but hB (fun hm => by
        have hm2 : w.heap.size + 1 ∈ (if i = 3 then [w.heap.size + 1] else if i = 4 then [w.heap.size + 2] else []) := hm
        by_cases y4 : i = 4
        · subst y4; simp at hm2
        rw [if_neg hij, if_neg y4] at hm2
        cases hm2), ho.but hB (fun hm => by
        have hm2 : k1 ∈ (if i = 3 then [w.heap.size + 1] else if i = 4 then [w.heap.size + 2] else []) := hm
        by_cases y3 : i = 3
        · subst y3; simp at hm2; omega
        by_cases y4 : i = 4
        · subst y4; simp at hm2; omega
        rw [if_neg y3, if_neg y4] at hm2
        cases hm2) (fun hm => by
        have hm2 : k2 ∈ (if i = 3 then [w.heap.size + 1] else if i = 4 then [w.heap.size + 2] else []) := hm
        by_cases y3 : i = 3
        · subst y3; simp at hm2; omega
        by_cases y4 : i = 4
        · subst y4; simp at hm2; omega
        rw [if_neg y3, if_neg y4] at hm2
        cases hm2) (fun hm => by
        have hm2 : k3 ∈ (if i = 3 then [w.heap.size + 1] else if i = 4 then [w.heap.size + 2] else []) := hm
        by_cases y3 : i = 3
        · subst y3; simp at hm2; omega
        by_cases y4 : i = 4
        · subst y4; simp at hm2; omega
        rw [if_neg y3, if_neg y4] at hm2
        cases hm2), h1, h2, h3⟩
    · exact h.but hB (fun hm => by
        have hm2 : w.heap.size + 2 ∈ (if i = 3 then [w.heap.size + 1] else if i = 4 then [w.heap.size + 2] else []) := hm
        by_cases y3 : i = 3
        · subst y3; simp at hm2
        rw [if_neg y3, if_neg hij] at hm2
        cases hm2)
    · trivial
  case step =>
    intro i o ho
    rcases i with _ | _ | _ | _ | _ | i
    · cases ho
      intro fu act u hW hB hsz hL hdep
      replace hB := hB [w.heap.size + 1, w.heap.size + 2] (fun j hj hd k hk => by
        by_cases y3 : j = 3
        · rw [if_pos y3] at hk; simp at hk; simp [hk]
        rw [if_neg y3] at hk
        by_cases y4 : j = 4
        · rw [if_pos y4] at hk; simp at hk; simp [hk]
        rw [if_neg y4] at hk
        cases hk)
      have x6 : act.tmps.getD 6 undef = (.pointer (some ⟨u3.heap.size, 0, none⟩) : Value) := (hL.2.2 6 (no_dst (by kernel_rfl))).trans rfl
      have c0 : u.cell? ⟨u3.heap.size, 0, none⟩ = some (.int .i64 s2.pc) := (HX6.out.but hB (by simp; omega)).cel 0 (by simp)
      have c1 : u.cell? ⟨u3.heap.size, 1, none⟩ = some (.slice (some ⟨x1, 0, none⟩) 8 xr) := (HX6.out.but hB (by simp; omega)).cel 1 (by simp)
      have c2 : u.cell? ⟨u3.heap.size, 2, none⟩ = some (.slice (some ⟨x2, 0, none⟩) 5 xc) := (HX6.out.but hB (by simp; omega)).cel 2 (by simp)
      have c3 : u.cell? ⟨u3.heap.size, 3, none⟩ = some (.slice (some ⟨x3, 0, none⟩) 256 xm) := (HX6.out.but hB (by simp; omega)).cel 3 (by simp)
      clear hdep hL
      refine wpOp_step rfl (fun K hK => ?_)
      go_simp
      exact hK _ _ ⟨_, rfl, (fun h => by cases h), rfl, But.refl _ _, trivial⟩
    · cases ho
      intro fu act u hW hB hsz hL hdep
      replace hB := hB [w.heap.size + 1, w.heap.size + 2] (fun j hj hd k hk => by
        by_cases y3 : j = 3
        · rw [if_pos y3] at hk; simp at hk; simp [hk]
        rw [if_neg y3] at hk
        by_cases y4 : j = 4
        · rw [if_pos y4] at hk; simp at hk; simp [hk]
        rw [if_neg y4] at hk
        cases hk)
      have e0 : act.tmps.getD 20 undef = (.agg #[.int .i64 s2.pc, .slice (some ⟨x1, 0, none⟩) 8 xr, .slice (some ⟨x2, 0, none⟩) 5 xc, .slice (some ⟨x3, 0, none⟩) 256 xm] : Value) := hdep { on := 0, ground := .data } (by simp) rfl _ rfl
      clear hdep hL
      refine wpOp_step rfl (fun K hK => ?_)
      go_simp
      have E := spec_l4Copy s2 (some ⟨x1, 0, none⟩) (some ⟨x2, 0, none⟩) (some ⟨x3, 0, none⟩) xr xc xm u (HOX.out.but hB (by simp; omega) (by simp; omega) (by simp; omega)).src HK2.out.Rl HK2.out.Cl HK2.out.Ml
      rw [HK2.out.Rl, HK2.out.Cl, HK2.out.Ml] at E
      refine E.mono ?_
      rintro e u' ⟨k1, k2, k3, kr, kc, km, rfl, ho, hl1, hl2, hl3, f⟩
      go_simp
      have hs := hB.size
      exact hK _ _ ⟨_, rfl, (fun h => by cases h), ⟨k1, k2, k3, kr, kc, km, rfl, ho, by omega, by omega, by omega⟩, But.of f, trivial⟩
    · cases ho
      intro fu act u hW hB hsz hL hdep
      replace hB := hB [w.heap.size + 1, w.heap.size + 2] (fun j hj hd k hk => by
        by_cases y3 : j = 3
        · rw [if_pos y3] at hk; simp at hk; simp [hk]
        rw [if_neg y3] at hk
        by_cases y4 : j = 4
        · rw [if_pos y4] at hk; simp at hk; simp [hk]
        rw [if_neg y4] at hk
        cases hk)
      have x7 : act.tmps.getD 7 undef = (.pointer (some ⟨u3.heap.size + 1, 0, none⟩) : Value) := (hL.2.2 7 (no_dst (by kernel_rfl))).trans rfl
      have c0 : u.cell? ⟨u3.heap.size + 1, 0, none⟩ = some (.int .i64 e2.pc) := (HX7.out.but hB (by simp; omega)).cel 0 (by simp)
      have c1 : u.cell? ⟨u3.heap.size + 1, 1, none⟩ = some (.int .i64 e2.w) := (HX7.out.but hB (by simp; omega)).cel 1 (by simp)
      have c2 : u.cell? ⟨u3.heap.size + 1, 2, none⟩ = some (.int .i64 e2.why) := (HX7.out.but hB (by simp; omega)).cel 2 (by simp)
      have c3 : u.cell? ⟨u3.heap.size + 1, 3, none⟩ = some (.int .i64 e2.d) := (HX7.out.but hB (by simp; omega)).cel 3 (by simp)
      have c4 : u.cell? ⟨u3.heap.size + 1, 4, none⟩ = some (.int .i64 e2.v) := (HX7.out.but hB (by simp; omega)).cel 4 (by simp)
      have c5 : u.cell? ⟨u3.heap.size + 1, 5, none⟩ = some (.int .i64 e2.ad) := (HX7.out.but hB (by simp; omega)).cel 5 (by simp)
      have c6 : u.cell? ⟨u3.heap.size + 1, 6, none⟩ = some (.int .i64 e2.dt) := (HX7.out.but hB (by simp; omega)).cel 6 (by simp)
      clear hdep hL
      refine wpOp_step rfl (fun K hK => ?_)
      go_simp
      exact hK _ _ ⟨_, rfl, (fun h => by cases h), rfl, But.refl _ _, trivial⟩
    · cases ho
      intro fu act u hW hB hsz hL hdep
      replace hB := hB [w.heap.size + 2] (fun j hj hd k hk => by
        by_cases x3 : j = 3
        · exact absurd x3 hj
        rw [if_neg x3] at hk
        by_cases y4 : j = 4
        · rw [if_pos y4] at hk; simp at hk; simp [hk]
        rw [if_neg y4] at hk
        cases hk)
      have x4 : act.tmps.getD 4 undef = (.pointer (some ⟨w.heap.size + 1, 0, none⟩) : Value) := (hL.2.2 4 (no_dst (by kernel_rfl))).trans rfl
      obtain ⟨k1, k2, k3, kr, kc, km, q1, ho, hl1, hl2, hl3⟩ := hdep { on := 1, ground := .data } (by simp) rfl _ rfl
      have e1 : act.tmps.getD 21 undef = (.agg #[.int .i64 s2.pc, .slice (some ⟨k1, 0, none⟩) 8 kr, .slice (some ⟨k2, 0, none⟩) 5 kc, .slice (some ⟨k3, 0, none⟩) 256 km] : Value) := q1
      clear hdep hL q1
      have q := HX2.out.but hB (by simp)
      have f0 : u.frozen? ⟨w.heap.size + 1, 0, none⟩ = false := q.fro 0 (by simp)
      have c0 := q.cel 0 (by simp)
      have f1 : u.frozen? ⟨w.heap.size + 1, 1, none⟩ = false := q.fro 1 (by simp)
      have c1 := q.cel 1 (by simp)
      have f2 : u.frozen? ⟨w.heap.size + 1, 2, none⟩ = false := q.fro 2 (by simp)
      have c2 := q.cel 2 (by simp)
      have f3 : u.frozen? ⟨w.heap.size + 1, 3, none⟩ = false := q.fro 3 (by simp)
      have c3 := q.cel 3 (by simp)
      refine wpOp_step rfl (fun K hK => ?_)
      go_simp
      exact hK _ _ ⟨undef, rfl, (fun _ => rfl), ⟨k1, k2, k3, kr, kc, km, (show Cel ((((u.setCell ⟨w.heap.size + 1, 0, none⟩ (.int .i64 s2.pc)).setCell ⟨w.heap.size + 1, 1, none⟩ (.slice (some ⟨k1, 0, none⟩) 8 kr)).setCell ⟨w.heap.size + 1, 2, none⟩ (.slice (some ⟨k2, 0, none⟩) 5 kc)).setCell ⟨w.heap.size + 1, 3, none⟩ (.slice (some ⟨k3, 0, none⟩) 256 km)) (w.heap.size + 1) [.int .i64 s2.pc, .slice (some ⟨k1, 0, none⟩) 8 kr, .slice (some ⟨k2, 0, none⟩) 5 kc, .slice (some ⟨k3, 0, none⟩) 256 km] from ((((q.set 0 (.int .i64 s2.pc) (by simp)).set 1 (.slice (some ⟨k1, 0, none⟩) 8 kr) (by simp)).set 2 (.slice (some ⟨k2, 0, none⟩) 5 kc) (by simp)).set 3 (.slice (some ⟨k3, 0, none⟩) 256 km) (by simp))), ho.but (((((But.refl [w.heap.size + 1] u).set (w.heap.size + 1) 0 _ (.inl (by simp))).set (w.heap.size + 1) 1 _ (.inl (by simp))).set (w.heap.size + 1) 2 _ (.inl (by simp))).set (w.heap.size + 1) 3 _ (.inl (by simp))) (by simp; omega) (by simp; omega) (by simp; omega), hl1, hl2, hl3⟩, (((((But.refl [w.heap.size + 1] u).set (w.heap.size + 1) 0 _ (.inl (by simp))).set (w.heap.size + 1) 1 _ (.inl (by simp))).set (w.heap.size + 1) 2 _ (.inl (by simp))).set (w.heap.size + 1) 3 _ (.inl (by simp))), trivial⟩
    · cases ho
      intro fu act u hW hB hsz hL hdep
      replace hB := hB [w.heap.size + 1] (fun j hj hd k hk => by
        by_cases y3 : j = 3
        · rw [if_pos y3] at hk; simp at hk; simp [hk]
        rw [if_neg y3] at hk
        by_cases x4 : j = 4
        · exact absurd x4 hj
        rw [if_neg x4] at hk
        cases hk)
      have x5 : act.tmps.getD 5 undef = (.pointer (some ⟨w.heap.size + 2, 0, none⟩) : Value) := (hL.2.2 5 (no_dst (by kernel_rfl))).trans rfl
      have e2' : act.tmps.getD 22 undef = (.agg #[.int .i64 e2.pc, .int .i64 e2.w, .int .i64 e2.why, .int .i64 e2.d, .int .i64 e2.v, .int .i64 e2.ad, .int .i64 e2.dt] : Value) := hdep { on := 2, ground := .data } (by simp) rfl _ rfl
      clear hdep hL
      have q := HX3.out.but hB (by simp)
      have f0 : u.frozen? ⟨w.heap.size + 2, 0, none⟩ = false := q.fro 0 (by simp)
      have c0 := q.cel 0 (by simp)
      have f1 : u.frozen? ⟨w.heap.size + 2, 1, none⟩ = false := q.fro 1 (by simp)
      have c1 := q.cel 1 (by simp)
      have f2 : u.frozen? ⟨w.heap.size + 2, 2, none⟩ = false := q.fro 2 (by simp)
      have c2 := q.cel 2 (by simp)
      have f3 : u.frozen? ⟨w.heap.size + 2, 3, none⟩ = false := q.fro 3 (by simp)
      have c3 := q.cel 3 (by simp)
      have f4 : u.frozen? ⟨w.heap.size + 2, 4, none⟩ = false := q.fro 4 (by simp)
      have c4 := q.cel 4 (by simp)
      have f5 : u.frozen? ⟨w.heap.size + 2, 5, none⟩ = false := q.fro 5 (by simp)
      have c5 := q.cel 5 (by simp)
      have f6 : u.frozen? ⟨w.heap.size + 2, 6, none⟩ = false := q.fro 6 (by simp)
      have c6 := q.cel 6 (by simp)
      refine wpOp_step rfl (fun K hK => ?_)
      go_simp
      exact hK _ _ ⟨undef, rfl, (fun _ => rfl), (show Cel (((((((u.setCell ⟨w.heap.size + 2, 0, none⟩ (.int .i64 e2.pc)).setCell ⟨w.heap.size + 2, 1, none⟩ (.int .i64 e2.w)).setCell ⟨w.heap.size + 2, 2, none⟩ (.int .i64 e2.why)).setCell ⟨w.heap.size + 2, 3, none⟩ (.int .i64 e2.d)).setCell ⟨w.heap.size + 2, 4, none⟩ (.int .i64 e2.v)).setCell ⟨w.heap.size + 2, 5, none⟩ (.int .i64 e2.ad)).setCell ⟨w.heap.size + 2, 6, none⟩ (.int .i64 e2.dt)) (w.heap.size + 2) [.int .i64 e2.pc, .int .i64 e2.w, .int .i64 e2.why, .int .i64 e2.d, .int .i64 e2.v, .int .i64 e2.ad, .int .i64 e2.dt] from (((((((q.set 0 (.int .i64 e2.pc) (by simp)).set 1 (.int .i64 e2.w) (by simp)).set 2 (.int .i64 e2.why) (by simp)).set 3 (.int .i64 e2.d) (by simp)).set 4 (.int .i64 e2.v) (by simp)).set 5 (.int .i64 e2.ad) (by simp)).set 6 (.int .i64 e2.dt) (by simp))), ((((((((But.refl [w.heap.size + 2] u).set (w.heap.size + 2) 0 _ (.inl (by simp))).set (w.heap.size + 2) 1 _ (.inl (by simp))).set (w.heap.size + 2) 2 _ (.inl (by simp))).set (w.heap.size + 2) 3 _ (.inl (by simp))).set (w.heap.size + 2) 4 _ (.inl (by simp))).set (w.heap.size + 2) 5 _ (.inl (by simp))).set (w.heap.size + 2) 6 _ (.inl (by simp))), trivial⟩
    · exact absurd ho (by simp)
  case fin =>
    intro act u hW hsz hB hL hsf
    replace hB := hB [w.heap.size + 1, w.heap.size + 2] (fun j k hk => by
      by_cases y3 : j = 3
      · rw [if_pos y3] at hk; simp at hk; simp [hk]
      rw [if_neg y3] at hk
      by_cases y4 : j = 4
      · rw [if_pos y4] at hk; simp at hk; simp [hk]
      rw [if_neg y4] at hk
      cases hk)
    obtain ⟨k1, k2, k3, kr, kc, km, b4, ho, hl4, hl5, hl6⟩ := hsf 3 _ rfl
    have b5 : Cel u (w.heap.size + 2) [.int .i64 e2.pc, .int .i64 e2.w, .int .i64 e2.why, .int .i64 e2.d, .int .i64 e2.v, .int .i64 e2.ad, .int .i64 e2.dt] := hsf 4 _ rfl
    obtain ⟨ysl, ha, hy⟩ := hL.puts [20, 21, 22] (by kernel_rfl)
    clear hL hsf hy
    simp only [List.foldl, List.setIfInBounds_toArray, List.set_cons_succ, List.set_cons_zero] at ha
    subst ha
    have c0 : u.cell? ⟨w.heap.size + 1, 0, none⟩ = some (.int .i64 s2.pc) := b4.cel 0 (by simp)
    have c1 : u.cell? ⟨w.heap.size + 1, 1, none⟩ = some (.slice (some ⟨k1, 0, none⟩) 8 kr) := b4.cel 1 (by simp)
    have c2 : u.cell? ⟨w.heap.size + 1, 2, none⟩ = some (.slice (some ⟨k2, 0, none⟩) 5 kc) := b4.cel 2 (by simp)
    have c3 : u.cell? ⟨w.heap.size + 1, 3, none⟩ = some (.slice (some ⟨k3, 0, none⟩) 256 km) := b4.cel 3 (by simp)
    have d0 : u.cell? ⟨w.heap.size + 2, 0, none⟩ = some (.int .i64 e2.pc) := b5.cel 0 (by simp)
    have d1 : u.cell? ⟨w.heap.size + 2, 1, none⟩ = some (.int .i64 e2.w) := b5.cel 1 (by simp)
    have d2 : u.cell? ⟨w.heap.size + 2, 2, none⟩ = some (.int .i64 e2.why) := b5.cel 2 (by simp)
    have d3 : u.cell? ⟨w.heap.size + 2, 3, none⟩ = some (.int .i64 e2.d) := b5.cel 3 (by simp)
    have d4 : u.cell? ⟨w.heap.size + 2, 4, none⟩ = some (.int .i64 e2.v) := b5.cel 4 (by simp)
    have d5 : u.cell? ⟨w.heap.size + 2, 5, none⟩ = some (.int .i64 e2.ad) := b5.cel 5 (by simp)
    have d6 : u.cell? ⟨w.heap.size + 2, 6, none⟩ = some (.int .i64 e2.dt) := b5.cel 6 (by simp)
    go_wp2
    refine bodyPost_ret (v := .tuple #[.agg #[.int .i64 s2.pc, .slice (some ⟨k1, 0, none⟩) 8 kr, .slice (some ⟨k2, 0, none⟩) 5 kc, .slice (some ⟨k3, 0, none⟩) 256 km], .agg #[.int .i64 e2.pc, .int .i64 e2.w, .int .i64 e2.why, .int .i64 e2.d, .int .i64 e2.v, .int .i64 e2.ad, .int .i64 e2.dt]]) (by simp [results, Tryd.results20, go_sem, c0, c1, c2, c3, d0, d1, d2, d3, d4, d5, d6]) rfl ?_
    exact ⟨k1, k2, k3, kr, kc, km, rfl, ho, by omega, by omega, by omega, fr_but HF4.out hB (fun k hk => by simp at hk; omega)⟩
set_option maxRecDepth 8000 in
set_option maxHeartbeats 4000000 in
theorem spec_PlnStep_no (s : St) (aR aC aM : Option Addr) (cR cC cM : Nat) (ring : Bool) (w : World) (h : SrcS w s aR aC aM) (hf : Few s) (hk : okS s = false) :
    Calls Tryd.prog 20 #[.agg #[.int .i64 (s).pc, .slice aR (s).R.length cR, .slice aC (s).C.length cC, .slice aM (s).M.length cM], .bool ring] w fun e w' => e = .returned (.tuple #[.agg #[.int .i64 0, .slice none 0 0, .slice none 0 0, .slice none 0 0], .agg #[.int .i64 0, .int .i64 0, .int .i64 0, .int .i64 0, .int .i64 0, .int .i64 0, .int .i64 0]]) ∧ Fr w w' := by
  have F3 : Fr w (((w.alloc (.cells #[.int .i64 s.pc, .slice aR s.R.length cR, .slice aC s.C.length cC, .slice aM s.M.length cM] 26)).alloc (.cells #[.int .i64 0, .slice none 0 0, .slice none 0 0, .slice none 0 0] 26)).alloc (.cells #[.int .i64 0, .int .i64 0, .int .i64 0, .int .i64 0, .int .i64 0, .int .i64 0, .int .i64 0] 28)) := by
    (repeat' first | (with_reducible exact Below.refl _ _) | (with_reducible assumption) | ((with_reducible refine Below.setCell ?_ ?hb _); (case hb => first | exact Nat.le_refl _ | (simp; done) | (simp; omega) | omega)) | ((with_reducible refine Below.alloc ?_ ?hb _); (case hb => first | exact Nat.le_refl _ | (simp; done) | (simp; omega) | omega)) | (with_reducible refine Below.drew ?_))
  have E := Lib.hid (spec_PlnOk s aR aC aM cR cC cM _ (h.fr F3) hf)
  have HF := Lib.hid F3
  have HS := Lib.hid h
  have b1 : Cel (((w.alloc (.cells #[.int .i64 s.pc, .slice aR s.R.length cR, .slice aC s.C.length cC, .slice aM s.M.length cM] 26)).alloc (.cells #[.int .i64 0, .slice none 0 0, .slice none 0 0, .slice none 0 0] 26)).alloc (.cells #[.int .i64 0, .int .i64 0, .int .i64 0, .int .i64 0, .int .i64 0, .int .i64 0, .int .i64 0] 28)) w.heap.size [.int .i64 s.pc, .slice aR s.R.length cR, .slice aC s.C.length cC, .slice aM s.M.length cM] := by
    (repeat (first | (with_reducible assumption) | (with_reducible exact Cel.new _ _ _ _ (by first | rfl | omega | (simp; done) | (simp; omega))) | (with_reducible refine Cel.alloc ?_ _) | (with_reducible refine Cel.drew ?_) | (with_reducible refine Cel.other ?_ _ _ _ (by omega))))
  have b2 : Cel (((w.alloc (.cells #[.int .i64 s.pc, .slice aR s.R.length cR, .slice aC s.C.length cC, .slice aM s.M.length cM] 26)).alloc (.cells #[.int .i64 0, .slice none 0 0, .slice none 0 0, .slice none 0 0] 26)).alloc (.cells #[.int .i64 0, .int .i64 0, .int .i64 0, .int .i64 0, .int .i64 0, .int .i64 0, .int .i64 0] 28)) (w.heap.size + 1) [.int .i64 0, .slice none 0 0, .slice none 0 0, .slice none 0 0] := by
    (repeat (first | (with_reducible assumption) | (with_reducible exact Cel.new _ _ _ _ (by first | rfl | omega | (simp; done) | (simp; omega))) | (with_reducible refine Cel.alloc ?_ _) | (with_reducible refine Cel.drew ?_) | (with_reducible refine Cel.other ?_ _ _ _ (by omega))))
  have b3 : Cel (((w.alloc (.cells #[.int .i64 s.pc, .slice aR s.R.length cR, .slice aC s.C.length cC, .slice aM s.M.length cM] 26)).alloc (.cells #[.int .i64 0, .slice none 0 0, .slice none 0 0, .slice none 0 0] 26)).alloc (.cells #[.int .i64 0, .int .i64 0, .int .i64 0, .int .i64 0, .int .i64 0, .int .i64 0, .int .i64 0] 28)) (w.heap.size + 2) [.int .i64 0, .int .i64 0, .int .i64 0, .int .i64 0, .int .i64 0, .int .i64 0, .int .i64 0] := by
    (repeat (first | (with_reducible assumption) | (with_reducible exact Cel.new _ _ _ _ (by first | rfl | omega | (simp; done) | (simp; omega))) | (with_reducible refine Cel.alloc ?_ _) | (with_reducible refine Cel.drew ?_) | (with_reducible refine Cel.other ?_ _ _ _ (by omega))))
  have HB1 := Lib.hid b1
  have HB2 := Lib.hid b2
  have HB3 := Lib.hid b3
  have HSZ := Lib.hid (show w.heap.size + 3 ≤ (((w.alloc (.cells #[.int .i64 s.pc, .slice aR s.R.length cR, .slice aC s.C.length cC, .slice aM s.M.length cM] 26)).alloc (.cells #[.int .i64 0, .slice none 0 0, .slice none 0 0, .slice none 0 0] 26)).alloc (.cells #[.int .i64 0, .int .i64 0, .int .i64 0, .int .i64 0, .int .i64 0, .int .i64 0, .int .i64 0] 28)).heap.size by simp)
  clear F3 h b1 b2 b3
  go_enter Tryd.func20, Tryd.ntmps20
  go_wp2_with fail
  simp only [Nat.add_assoc, Nat.reduceAdd]
  refine E.out.mono ?_
  rintro e u1 ⟨rfl, f1⟩
  have HF1 := Lib.hid (HF.out.trans f1)
  have HX1 := Lib.hid (HB1.out.fr f1)
  have HX2 := Lib.hid (HB2.out.fr f1)
  have HX3 := Lib.hid (HB3.out.fr f1)
  have hsz := f1.size
  have hs3 := HSZ.out
  have hs1 : w.heap.size + 3 ≤ u1.heap.size := by omega
  clear f1 E HF HB1 HB2 HB3 HSZ hsz hs3
  generalize (((w.alloc (.cells #[.int .i64 s.pc, .slice aR s.R.length cR, .slice aC s.C.length cC, .slice aM s.M.length cM] 26)).alloc (.cells #[.int .i64 0, .slice none 0 0, .slice none 0 0, .slice none 0 0] 26)).alloc (.cells #[.int .i64 0, .int .i64 0, .int .i64 0, .int .i64 0, .int .i64 0, .int .i64 0, .int .i64 0] 28)) = u0 at *
  rw [hk]
  have cx0 := HX2.out.cel 0 (by simp)
  simp only [List.getD_cons_zero, List.getD_cons_succ] at cx0
  have cx1 := HX2.out.cel 1 (by simp)
  simp only [List.getD_cons_zero, List.getD_cons_succ] at cx1
  have cx2 := HX2.out.cel 2 (by simp)
  simp only [List.getD_cons_zero, List.getD_cons_succ] at cx2
  have cx3 := HX2.out.cel 3 (by simp)
  simp only [List.getD_cons_zero, List.getD_cons_succ] at cx3
  have dx0 := HX2.out.fro 0 (by simp)
  have dx1 := HX2.out.fro 1 (by simp)
  have dx2 := HX2.out.fro 2 (by simp)
  have dx3 := HX2.out.fro 3 (by simp)
  have cy0 := HX3.out.cel 0 (by simp)
  simp only [List.getD_cons_zero, List.getD_cons_succ] at cy0
  have cy1 := HX3.out.cel 1 (by simp)
  simp only [List.getD_cons_zero, List.getD_cons_succ] at cy1
  have cy2 := HX3.out.cel 2 (by simp)
  simp only [List.getD_cons_zero, List.getD_cons_succ] at cy2
  have cy3 := HX3.out.cel 3 (by simp)
  simp only [List.getD_cons_zero, List.getD_cons_succ] at cy3
  have cy4 := HX3.out.cel 4 (by simp)
  simp only [List.getD_cons_zero, List.getD_cons_succ] at cy4
  have cy5 := HX3.out.cel 5 (by simp)
  simp only [List.getD_cons_zero, List.getD_cons_succ] at cy5
  have cy6 := HX3.out.cel 6 (by simp)
  simp only [List.getD_cons_zero, List.getD_cons_succ] at cy6
  have dy0 := HX3.out.fro 0 (by simp)
  have dy1 := HX3.out.fro 1 (by simp)
  have dy2 := HX3.out.fro 2 (by simp)
  have dy3 := HX3.out.fro 3 (by simp)
  have dy4 := HX3.out.fro 4 (by simp)
  have dy5 := HX3.out.fro 5 (by simp)
  have dy6 := HX3.out.fro 6 (by simp)
  go_wp2
  refine bodyPost_ret (v := .tuple #[.agg #[.int .i64 0, .slice none 0 0, .slice none 0 0, .slice none 0 0], .agg #[.int .i64 0, .int .i64 0, .int .i64 0, .int .i64 0, .int .i64 0, .int .i64 0, .int .i64 0]]) (by simp [results, Tryd.results20, go_sem, cx0, cx1, cx2, cx3, cy0, cy1, cy2, cy3, cy4, cy5, cy6]) rfl ⟨rfl, ?_⟩
  refine fr_but (L := [w.heap.size + 1, w.heap.size + 2]) HF1.out ?_ (fun k hk => by simp at hk; omega)
  (repeat with_reducible first | exact But.refl _ _ | assumption | refine But.alloc ?_ _ | refine But.drew ?_ | refine But.drewN ?_ _ | refine But.set ?_ _ _ _ (by first | (left; simp; done) | (right; simp; done) | (right; omega) | (right; simp; omega)))

abbrev noE : Ev := ⟨0, 0, 0, 0, 0, 0, 0⟩
/-- The machine behind a step, and what was done; of one that is not ok nothing. -/
def stepD (s : St) (ring : Bool) : St × Ev := if okS s = true then stepS s ring else (noS, noE)
/-- Behind a call whose answer is a machine and what was done. -/
def ResE (t : St) (ev : Ev) (w : World) (e : Ending) (w' : World) : Prop := ∃ aR aC aM cR cC cM, e = .returned (.tuple #[.agg #[.int .i64 (t).pc, .slice aR (t).R.length cR, .slice aC (t).C.length cC, .slice aM (t).M.length cM], .agg #[.int .i64 (ev).pc, .int .i64 (ev).w, .int .i64 (ev).why, .int .i64 (ev).d, .int .i64 (ev).v, .int .i64 (ev).ad, .int .i64 (ev).dt]]) ∧ VcS w.heap.size w' t aR aC aM ∧ (∀ b : Addr, aR = some b ∨ aC = some b ∨ aM = some b → w.heap.size ≤ b.block ∧ b.block < w'.heap.size) ∧ Fr w w'
theorem pst_res {s : St} {ring : Bool} {w : World} {e : Ending} {w' : World} (hk : OkS s) (h : PstP s ring w e w') : ResE (stepS s ring).1 (stepS s ring).2 w e w' := by
  obtain ⟨gr, gc, gm, cr, cc, cm, he, ho, l1, l2, l3, f⟩ := h
  have h2 := step_ok hk ring
  refine ⟨some ⟨gr, 0, none⟩, some ⟨gc, 0, none⟩, some ⟨gm, 0, none⟩, cr, cc, cm, by rw [h2.Rl, h2.Cl, h2.Ml]; exact he, ho.vcs l1 l2 l3, fun b hb => ?_, f⟩
  rcases hb with hb | hb | hb
  · cases hb; exact ⟨l1, ho.R.lt⟩
  · cases hb; exact ⟨l2, ho.C.lt⟩
  · cases hb; exact ⟨l3, ho.M.lt⟩
theorem spec_step_res {s t : St} {ev : Ev} {aR aC aM : Option Addr} {cR cC cM : Nat} {ring : Bool} {w : World} (ht : stepD s ring = (t, ev)) (h : SrcS w s aR aC aM) (hf : Few s) :
    Calls Tryd.prog 20 #[.agg #[.int .i64 (s).pc, .slice aR (s).R.length cR, .slice aC (s).C.length cC, .slice aM (s).M.length cM], .bool ring] w (ResE t ev w) := by
  by_cases hk : okS s = true
  · rw [stepD, if_pos hk] at ht
    refine (spec_PlnStep s aR aC aM cR cC cM ring w h hf ((okS_iff s).1 hk)).mono fun e w' hq => ?_
    have := pst_res ((okS_iff s).1 hk) hq
    rw [ht] at this
    exact this
  · rw [stepD, if_neg hk] at ht
    obtain ⟨rfl, rfl⟩ := Prod.mk.inj ht
    refine (spec_PlnStep_no s aR aC aM cR cC cM ring w h hf (by simpa using hk)).mono fun e w' hq => ?_
    exact ⟨none, none, none, 0, 0, 0, hq.1, VcS.nil _ _ _, (fun b hb => by rcases hb with hb | hb | hb <;> cases hb), hq.2⟩
theorem impl_step_res {s t : St} {ev : Ev} {aR aC aM : Option Addr} {cR cC cM : Nat} {ring : Bool} {w : World} (ht : stepD s ring = (t, ev)) (h : SrcS w s aR aC aM) (hf : Few s) (htb : Tabs w) :
    Calls Tryd.prog 22 #[.agg #[.int .i64 (s).pc, .slice aR (s).R.length cR, .slice aC (s).C.length cC, .slice aM (s).M.length cM], .bool ring] w (ResE t ev w) := by
  by_cases hk : okS s = true
  · rw [stepD, if_pos hk] at ht
    refine (impl_PlnStep s aR aC aM cR cC cM ring w h ((okS_iff s).1 hk) htb).mono fun e w' hq => ?_
    have := pst_res ((okS_iff s).1 hk) hq
    rw [ht] at this
    exact this
  · rw [stepD, if_neg hk] at ht
    obtain ⟨rfl, rfl⟩ := Prod.mk.inj ht
    refine (impl_PlnStep_no s aR aC aM cR cC cM ring w h hf (by simpa using hk)).mono fun e w' hq => ?_
    exact ⟨none, none, none, 0, 0, 0, hq.1, VcS.nil _ _ _, (fun b hb => by rcases hb with hb | hb | hb <;> cases hb), hq.2⟩
theorem few_step (s : St) (ring : Bool) : Few20 (stepD s ring).1 := by
  unfold stepD
  split
  · rename_i h
    exact ok_few20 (step_ok ((okS_iff s).1 h) ring)
  · exact ⟨by simp, by simp, by simp⟩
set_option maxHeartbeats 1000000 in
theorem laws_eqPlnEvent_same (e : Ev) (w : World) : Calls Tryd.prog 24 #[.agg #[.int .i64 (e).pc, .int .i64 (e).w, .int .i64 (e).why, .int .i64 (e).d, .int .i64 (e).v, .int .i64 (e).ad, .int .i64 (e).dt], .agg #[.int .i64 (e).pc, .int .i64 (e).w, .int .i64 (e).why, .int .i64 (e).d, .int .i64 (e).v, .int .i64 (e).ad, .int .i64 (e).dt]] w fun r w' => r = .returned (.bool true) ∧ Fr w w' := by
  obtain ⟨a, b, c, d, x, y, z⟩ := e
  go_enter Tryd.func24, Tryd.ntmps24
  go_wp2
  go_ret
  refine ⟨rfl, ?_⟩
  (repeat' first | (with_reducible exact Below.refl _ _) | (with_reducible assumption) | ((with_reducible refine Below.setCell ?_ ?hb _); (case hb => first | exact Nat.le_refl _ | (simp; done) | (simp; omega) | omega)) | ((with_reducible refine Below.alloc ?_ ?hb _); (case hb => first | exact Nat.le_refl _ | (simp; done) | (simp; omega) | omega)) | (with_reducible refine Below.drew ?_))

end Go.Proofs.YtbjapncfgancoaaDoor
