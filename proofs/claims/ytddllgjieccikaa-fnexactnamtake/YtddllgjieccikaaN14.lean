/- The model's NamFree, NamBack, NamTake. -/
import Derived.Test.YtddllgjieccikaaN13
import Derived.Test.YtddllgjieccikaaNbx
namespace Go.Proofs.Ytddllgjieccikaa
open Go.RowKit
set_option linter.unusedVariables false
set_option linter.unusedSimpArgs false
set_option maxRecDepth 8000 in
set_option maxHeartbeats 4000000 in
theorem spec_NamFree_1 (x : Nm) (aM aF aV aH : Option Addr) (cM cF cV cH : Nat) (p : Int) (w : World) (h : SrcN w x aM aF aV aH) (hf : Few6 x) (h1 : okN x = false) :
    Calls Try.prog 31 #[.agg #[.slice aM x.M.length cM, .slice aF x.F.length cF, .slice aV x.V.length cV, .slice aH x.H.length cH], .int .i64 p] w (NmP nm0 w) := by
  have F2 : Fr w ((w.alloc (.cells #[.slice aM x.M.length cM, .slice aF x.F.length cF, .slice aV x.V.length cV, .slice aH x.H.length cH] 25)).alloc (.cells #[.slice none 0 0, .slice none 0 0, .slice none 0 0, .slice none 0 0] 25)) := by (repeat' first | (with_reducible exact Below.refl _ _) | (with_reducible assumption) | ((with_reducible refine Below.setCell ?_ ?hb _); (case hb => first | exact Nat.le_refl _ | (simp; done) | (simp; omega) | omega)) | ((with_reducible refine Below.alloc ?_ ?hb _); (case hb => first | exact Nat.le_refl _ | (simp; done) | (simp; omega) | omega)) | (with_reducible refine Below.drew ?_))
  have HF := Lib.hid F2
  have HB := Lib.hid (show Box4 ((w.alloc (.cells #[.slice aM x.M.length cM, .slice aF x.F.length cF, .slice aV x.V.length cV, .slice aH x.H.length cH] 25)).alloc (.cells #[.slice none 0 0, .slice none 0 0, .slice none 0 0, .slice none 0 0] 25)) w.heap.size (.slice aM x.M.length cM) (.slice aF x.F.length cF) (.slice aV x.V.length cV) (.slice aH x.H.length cH) from (Box4.new _ _ _ _ _ _ _ rfl).fr (Fr.alloc _ _))
  have HZ := Lib.hid (show Box4 ((w.alloc (.cells #[.slice aM x.M.length cM, .slice aF x.F.length cF, .slice aV x.V.length cV, .slice aH x.H.length cH] 25)).alloc (.cells #[.slice none 0 0, .slice none 0 0, .slice none 0 0, .slice none 0 0] 25)) (w.heap.size + 1) (.slice none 0 0) (.slice none 0 0) (.slice none 0 0) (.slice none 0 0) from Box4.new _ _ _ _ _ _ _ (by simp))
  have HS := Lib.hid h
  have HW := Lib.hid hf
  have HO := Lib.hid h1
  clear h1
  clear F2 h hf
  go_enter Try.func31, Try.ntmps31
  go_upto_region 1 with fail
  generalize ((w.alloc (.cells #[.slice aM x.M.length cM, .slice aF x.F.length cF, .slice aV x.V.length cV, .slice aH x.H.length cH] 25)).alloc (.cells #[.slice none 0 0, .slice none 0 0, .slice none 0 0, .slice none 0 0] 25)) = u at *
  obtain ⟨_, c0, c1, c2, c3, _, _, _, _⟩ := HB.out
  go_wp2_with fail
  refine (spec_NamOk x _ _ _ _ _ _ _ _ _ (HS.out.fr HF.out) HW.out).mono ?_
  rintro e u1 ⟨rfl, f⟩
  clear c0 c1 c2 c3
  replace HF := Lib.hid (HF.out.trans f)
  replace HB := Lib.hid (HB.out.fr f)
  replace HZ := Lib.hid (HZ.out.fr f)
  clear f
  rw [HO.out]
  obtain ⟨_, z0, z1, z2, z3, zf0, zf1, zf2, zf3⟩ := HZ.out
  go_wp2_with fail
  refine bodyPost_ret (v := .agg #[.slice none 0 0, .slice none 0 0, .slice none 0 0, .slice none 0 0]) (by simp [results, Try.results31, go_sem, World.cell?_setCell_other, World.cell?_setCell_same, z0, z1, z2, z3]) rfl ⟨none, none, none, none, 0, 0, 0, 0, rfl, VcNm.nil _ _ _ _ _ _, ?_⟩
  exact fr_but HF.out ((But.refl _ _).set4 (w.heap.size + 1) _ _ _ _ (.inl (by simp)) : But [w.heap.size + 1] _ _) (fun k hk => by have := List.mem_singleton.1 hk; omega)
set_option maxRecDepth 8000 in
set_option maxHeartbeats 4000000 in
theorem spec_NamFree_2 (x : Nm) (aM aF aV aH : Option Addr) (cM cF cV cH : Nat) (p : Int) (w : World) (h : SrcN w x aM aF aV aH) (hf : Few6 x) (h1 : okN x = true) (h2 : phyB p = false) :
    Calls Try.prog 31 #[.agg #[.slice aM x.M.length cM, .slice aF x.F.length cF, .slice aV x.V.length cV, .slice aH x.H.length cH], .int .i64 p] w (NmP nm0 w) := by
  have F2 : Fr w ((w.alloc (.cells #[.slice aM x.M.length cM, .slice aF x.F.length cF, .slice aV x.V.length cV, .slice aH x.H.length cH] 25)).alloc (.cells #[.slice none 0 0, .slice none 0 0, .slice none 0 0, .slice none 0 0] 25)) := by (repeat' first | (with_reducible exact Below.refl _ _) | (with_reducible assumption) | ((with_reducible refine Below.setCell ?_ ?hb _); (case hb => first | exact Nat.le_refl _ | (simp; done) | (simp; omega) | omega)) | ((with_reducible refine Below.alloc ?_ ?hb _); (case hb => first | exact Nat.le_refl _ | (simp; done) | (simp; omega) | omega)) | (with_reducible refine Below.drew ?_))
  have HF := Lib.hid F2
  have HB := Lib.hid (show Box4 ((w.alloc (.cells #[.slice aM x.M.length cM, .slice aF x.F.length cF, .slice aV x.V.length cV, .slice aH x.H.length cH] 25)).alloc (.cells #[.slice none 0 0, .slice none 0 0, .slice none 0 0, .slice none 0 0] 25)) w.heap.size (.slice aM x.M.length cM) (.slice aF x.F.length cF) (.slice aV x.V.length cV) (.slice aH x.H.length cH) from (Box4.new _ _ _ _ _ _ _ rfl).fr (Fr.alloc _ _))
  have HZ := Lib.hid (show Box4 ((w.alloc (.cells #[.slice aM x.M.length cM, .slice aF x.F.length cF, .slice aV x.V.length cV, .slice aH x.H.length cH] 25)).alloc (.cells #[.slice none 0 0, .slice none 0 0, .slice none 0 0, .slice none 0 0] 25)) (w.heap.size + 1) (.slice none 0 0) (.slice none 0 0) (.slice none 0 0) (.slice none 0 0) from Box4.new _ _ _ _ _ _ _ (by simp))
  have HS := Lib.hid h
  have HW := Lib.hid hf
  have HO := Lib.hid h1
  have H2 := Lib.hid h2
  clear h1 h2
  clear F2 h hf
  go_enter Try.func31, Try.ntmps31
  go_upto_region 1 with fail
  generalize ((w.alloc (.cells #[.slice aM x.M.length cM, .slice aF x.F.length cF, .slice aV x.V.length cV, .slice aH x.H.length cH] 25)).alloc (.cells #[.slice none 0 0, .slice none 0 0, .slice none 0 0, .slice none 0 0] 25)) = u at *
  obtain ⟨_, c0, c1, c2, c3, _, _, _, _⟩ := HB.out
  go_wp2_with fail
  refine (spec_NamOk x _ _ _ _ _ _ _ _ _ (HS.out.fr HF.out) HW.out).mono ?_
  rintro e u1 ⟨rfl, f⟩
  clear c0 c1 c2 c3
  replace HF := Lib.hid (HF.out.trans f)
  replace HB := Lib.hid (HB.out.fr f)
  replace HZ := Lib.hid (HZ.out.fr f)
  clear f
  rw [HO.out]
  go_wp2_with fail
  refine (spec_l6Phy p _).mono ?_
  rintro e w' ⟨rfl, rfl⟩
  rw [H2.out]
  obtain ⟨_, z0, z1, z2, z3, zf0, zf1, zf2, zf3⟩ := HZ.out
  go_wp2_with fail
  refine bodyPost_ret (v := .agg #[.slice none 0 0, .slice none 0 0, .slice none 0 0, .slice none 0 0]) (by simp [results, Try.results31, go_sem, World.cell?_setCell_other, World.cell?_setCell_same, z0, z1, z2, z3]) rfl ⟨none, none, none, none, 0, 0, 0, 0, rfl, VcNm.nil _ _ _ _ _ _, ?_⟩
  exact fr_but HF.out ((But.refl _ _).set4 (w.heap.size + 1) _ _ _ _ (.inl (by simp)) : But [w.heap.size + 1] _ _) (fun k hk => by have := List.mem_singleton.1 hk; omega)
set_option maxRecDepth 8000 in
set_option maxHeartbeats 4000000 in
theorem spec_NamFree_3 (x : Nm) (aM aF aV aH : Option Addr) (cM cF cV cH : Nat) (p : Int) (w : World) (h : SrcN w x aM aF aV aH) (hf : Few6 x) (h1 : okN x = true) (h2 : phyB p = true) (h3 : hasB x.M p = true) :
    Calls Try.prog 31 #[.agg #[.slice aM x.M.length cM, .slice aF x.F.length cF, .slice aV x.V.length cV, .slice aH x.H.length cH], .int .i64 p] w (NmP nm0 w) := by
  have F2 : Fr w ((w.alloc (.cells #[.slice aM x.M.length cM, .slice aF x.F.length cF, .slice aV x.V.length cV, .slice aH x.H.length cH] 25)).alloc (.cells #[.slice none 0 0, .slice none 0 0, .slice none 0 0, .slice none 0 0] 25)) := by (repeat' first | (with_reducible exact Below.refl _ _) | (with_reducible assumption) | ((with_reducible refine Below.setCell ?_ ?hb _); (case hb => first | exact Nat.le_refl _ | (simp; done) | (simp; omega) | omega)) | ((with_reducible refine Below.alloc ?_ ?hb _); (case hb => first | exact Nat.le_refl _ | (simp; done) | (simp; omega) | omega)) | (with_reducible refine Below.drew ?_))
  have HF := Lib.hid F2
  have HB := Lib.hid (show Box4 ((w.alloc (.cells #[.slice aM x.M.length cM, .slice aF x.F.length cF, .slice aV x.V.length cV, .slice aH x.H.length cH] 25)).alloc (.cells #[.slice none 0 0, .slice none 0 0, .slice none 0 0, .slice none 0 0] 25)) w.heap.size (.slice aM x.M.length cM) (.slice aF x.F.length cF) (.slice aV x.V.length cV) (.slice aH x.H.length cH) from (Box4.new _ _ _ _ _ _ _ rfl).fr (Fr.alloc _ _))
  have HZ := Lib.hid (show Box4 ((w.alloc (.cells #[.slice aM x.M.length cM, .slice aF x.F.length cF, .slice aV x.V.length cV, .slice aH x.H.length cH] 25)).alloc (.cells #[.slice none 0 0, .slice none 0 0, .slice none 0 0, .slice none 0 0] 25)) (w.heap.size + 1) (.slice none 0 0) (.slice none 0 0) (.slice none 0 0) (.slice none 0 0) from Box4.new _ _ _ _ _ _ _ (by simp))
  have HS := Lib.hid h
  have HW := Lib.hid hf
  have HO := Lib.hid h1
  have H2 := Lib.hid h2
  have H3 := Lib.hid h3
  clear h1 h2 h3
  clear F2 h hf
  go_enter Try.func31, Try.ntmps31
  go_upto_region 1 with fail
  generalize ((w.alloc (.cells #[.slice aM x.M.length cM, .slice aF x.F.length cF, .slice aV x.V.length cV, .slice aH x.H.length cH] 25)).alloc (.cells #[.slice none 0 0, .slice none 0 0, .slice none 0 0, .slice none 0 0] 25)) = u at *
  obtain ⟨_, c0, c1, c2, c3, _, _, _, _⟩ := HB.out
  go_wp2_with fail
  refine (spec_NamOk x _ _ _ _ _ _ _ _ _ (HS.out.fr HF.out) HW.out).mono ?_
  rintro e u1 ⟨rfl, f⟩
  clear c0 c1 c2 c3
  replace HF := Lib.hid (HF.out.trans f)
  replace HB := Lib.hid (HB.out.fr f)
  replace HZ := Lib.hid (HZ.out.fr f)
  clear f
  rw [HO.out]
  go_wp2_with fail
  refine (spec_l6Phy p _).mono ?_
  rintro e w' ⟨rfl, rfl⟩
  rw [H2.out]
  obtain ⟨_, c0, c1, c2, c3, _, _, _, _⟩ := HB.out
  go_wp2_with fail
  refine (spec_l6Has x.M _ _ p _ (HS.out.fr HF.out).M (by have := HW.out.M; omega)).mono ?_
  rintro e w' ⟨rfl, rfl⟩
  rw [H3.out]
  obtain ⟨_, z0, z1, z2, z3, zf0, zf1, zf2, zf3⟩ := HZ.out
  go_wp2_with fail
  refine bodyPost_ret (v := .agg #[.slice none 0 0, .slice none 0 0, .slice none 0 0, .slice none 0 0]) (by simp [results, Try.results31, go_sem, World.cell?_setCell_other, World.cell?_setCell_same, z0, z1, z2, z3]) rfl ⟨none, none, none, none, 0, 0, 0, 0, rfl, VcNm.nil _ _ _ _ _ _, ?_⟩
  exact fr_but HF.out ((But.refl _ _).set4 (w.heap.size + 1) _ _ _ _ (.inl (by simp)) : But [w.heap.size + 1] _ _) (fun k hk => by have := List.mem_singleton.1 hk; omega)
set_option maxRecDepth 8000 in
set_option maxHeartbeats 4000000 in
theorem spec_NamFree_4 (x : Nm) (aM aF aV aH : Option Addr) (cM cF cV cH : Nat) (p : Int) (w : World) (h : SrcN w x aM aF aV aH) (hf : Few6 x) (h1 : okN x = true) (h2 : phyB p = true) (h3 : hasB x.M p = false) (h4 : hasB x.F p = true) :
    Calls Try.prog 31 #[.agg #[.slice aM x.M.length cM, .slice aF x.F.length cF, .slice aV x.V.length cV, .slice aH x.H.length cH], .int .i64 p] w (NmP nm0 w) := by
  have F2 : Fr w ((w.alloc (.cells #[.slice aM x.M.length cM, .slice aF x.F.length cF, .slice aV x.V.length cV, .slice aH x.H.length cH] 25)).alloc (.cells #[.slice none 0 0, .slice none 0 0, .slice none 0 0, .slice none 0 0] 25)) := by (repeat' first | (with_reducible exact Below.refl _ _) | (with_reducible assumption) | ((with_reducible refine Below.setCell ?_ ?hb _); (case hb => first | exact Nat.le_refl _ | (simp; done) | (simp; omega) | omega)) | ((with_reducible refine Below.alloc ?_ ?hb _); (case hb => first | exact Nat.le_refl _ | (simp; done) | (simp; omega) | omega)) | (with_reducible refine Below.drew ?_))
  have HF := Lib.hid F2
  have HB := Lib.hid (show Box4 ((w.alloc (.cells #[.slice aM x.M.length cM, .slice aF x.F.length cF, .slice aV x.V.length cV, .slice aH x.H.length cH] 25)).alloc (.cells #[.slice none 0 0, .slice none 0 0, .slice none 0 0, .slice none 0 0] 25)) w.heap.size (.slice aM x.M.length cM) (.slice aF x.F.length cF) (.slice aV x.V.length cV) (.slice aH x.H.length cH) from (Box4.new _ _ _ _ _ _ _ rfl).fr (Fr.alloc _ _))
  have HZ := Lib.hid (show Box4 ((w.alloc (.cells #[.slice aM x.M.length cM, .slice aF x.F.length cF, .slice aV x.V.length cV, .slice aH x.H.length cH] 25)).alloc (.cells #[.slice none 0 0, .slice none 0 0, .slice none 0 0, .slice none 0 0] 25)) (w.heap.size + 1) (.slice none 0 0) (.slice none 0 0) (.slice none 0 0) (.slice none 0 0) from Box4.new _ _ _ _ _ _ _ (by simp))
  have HS := Lib.hid h
  have HW := Lib.hid hf
  have HO := Lib.hid h1
  have H2 := Lib.hid h2
  have H3 := Lib.hid h3
  have H4 := Lib.hid h4
  clear h1 h2 h3 h4
  clear F2 h hf
  go_enter Try.func31, Try.ntmps31
  go_upto_region 1 with fail
  generalize ((w.alloc (.cells #[.slice aM x.M.length cM, .slice aF x.F.length cF, .slice aV x.V.length cV, .slice aH x.H.length cH] 25)).alloc (.cells #[.slice none 0 0, .slice none 0 0, .slice none 0 0, .slice none 0 0] 25)) = u at *
  obtain ⟨_, c0, c1, c2, c3, _, _, _, _⟩ := HB.out
  go_wp2_with fail
  refine (spec_NamOk x _ _ _ _ _ _ _ _ _ (HS.out.fr HF.out) HW.out).mono ?_
  rintro e u1 ⟨rfl, f⟩
  clear c0 c1 c2 c3
  replace HF := Lib.hid (HF.out.trans f)
  replace HB := Lib.hid (HB.out.fr f)
  replace HZ := Lib.hid (HZ.out.fr f)
  clear f
  rw [HO.out]
  go_wp2_with fail
  refine (spec_l6Phy p _).mono ?_
  rintro e w' ⟨rfl, rfl⟩
  rw [H2.out]
  obtain ⟨_, c0, c1, c2, c3, _, _, _, _⟩ := HB.out
  go_wp2_with fail
  refine (spec_l6Has x.M _ _ p _ (HS.out.fr HF.out).M (by have := HW.out.M; omega)).mono ?_
  rintro e w' ⟨rfl, rfl⟩
  rw [H3.out]
  go_wp2_with fail
  refine (spec_l6Has x.F _ _ p _ (HS.out.fr HF.out).F (by have := HW.out.F; omega)).mono ?_
  rintro e w' ⟨rfl, rfl⟩
  rw [H4.out]
  obtain ⟨_, z0, z1, z2, z3, zf0, zf1, zf2, zf3⟩ := HZ.out
  go_wp2_with fail
  refine bodyPost_ret (v := .agg #[.slice none 0 0, .slice none 0 0, .slice none 0 0, .slice none 0 0]) (by simp [results, Try.results31, go_sem, World.cell?_setCell_other, World.cell?_setCell_same, z0, z1, z2, z3]) rfl ⟨none, none, none, none, 0, 0, 0, 0, rfl, VcNm.nil _ _ _ _ _ _, ?_⟩
  exact fr_but HF.out ((But.refl _ _).set4 (w.heap.size + 1) _ _ _ _ (.inl (by simp)) : But [w.heap.size + 1] _ _) (fun k hk => by have := List.mem_singleton.1 hk; omega)
set_option maxRecDepth 8000 in
set_option maxHeartbeats 4000000 in
theorem spec_NamFree_5 (x : Nm) (aM aF aV aH : Option Addr) (cM cF cV cH : Nat) (p : Int) (w : World) (h : SrcN w x aM aF aV aH) (hf : Few6 x) (h1 : okN x = true) (h2 : phyB p = true) (h3 : hasB x.M p = false) (h4 : hasB x.F p = false) :
    Calls Try.prog 31 #[.agg #[.slice aM x.M.length cM, .slice aF x.F.length cF, .slice aV x.V.length cV, .slice aH x.H.length cH], .int .i64 p] w (NmP (freeG x p) w) := by
  have F2 : Fr w ((w.alloc (.cells #[.slice aM x.M.length cM, .slice aF x.F.length cF, .slice aV x.V.length cV, .slice aH x.H.length cH] 25)).alloc (.cells #[.slice none 0 0, .slice none 0 0, .slice none 0 0, .slice none 0 0] 25)) := by (repeat' first | (with_reducible exact Below.refl _ _) | (with_reducible assumption) | ((with_reducible refine Below.setCell ?_ ?hb _); (case hb => first | exact Nat.le_refl _ | (simp; done) | (simp; omega) | omega)) | ((with_reducible refine Below.alloc ?_ ?hb _); (case hb => first | exact Nat.le_refl _ | (simp; done) | (simp; omega) | omega)) | (with_reducible refine Below.drew ?_))
  have HF := Lib.hid F2
  have HB := Lib.hid (show Box4 ((w.alloc (.cells #[.slice aM x.M.length cM, .slice aF x.F.length cF, .slice aV x.V.length cV, .slice aH x.H.length cH] 25)).alloc (.cells #[.slice none 0 0, .slice none 0 0, .slice none 0 0, .slice none 0 0] 25)) w.heap.size (.slice aM x.M.length cM) (.slice aF x.F.length cF) (.slice aV x.V.length cV) (.slice aH x.H.length cH) from (Box4.new _ _ _ _ _ _ _ rfl).fr (Fr.alloc _ _))
  have HZ := Lib.hid (show Box4 ((w.alloc (.cells #[.slice aM x.M.length cM, .slice aF x.F.length cF, .slice aV x.V.length cV, .slice aH x.H.length cH] 25)).alloc (.cells #[.slice none 0 0, .slice none 0 0, .slice none 0 0, .slice none 0 0] 25)) (w.heap.size + 1) (.slice none 0 0) (.slice none 0 0) (.slice none 0 0) (.slice none 0 0) from Box4.new _ _ _ _ _ _ _ (by simp))
  have HS := Lib.hid h
  have HW := Lib.hid hf
  have HO := Lib.hid h1
  have H2 := Lib.hid h2
  have H3 := Lib.hid h3
  have H4 := Lib.hid h4
  have HK := Lib.hid (okN_ok h1)
  clear h1 h2 h3 h4
  clear F2 h hf
  go_enter Try.func31, Try.ntmps31
  go_upto_region 1 with fail
  generalize ((w.alloc (.cells #[.slice aM x.M.length cM, .slice aF x.F.length cF, .slice aV x.V.length cV, .slice aH x.H.length cH] 25)).alloc (.cells #[.slice none 0 0, .slice none 0 0, .slice none 0 0, .slice none 0 0] 25)) = u at *
  obtain ⟨_, c0, c1, c2, c3, _, _, _, _⟩ := HB.out
  go_wp2_with fail
  refine (spec_NamOk x _ _ _ _ _ _ _ _ _ (HS.out.fr HF.out) HW.out).mono ?_
  rintro e u1 ⟨rfl, f⟩
  clear c0 c1 c2 c3
  replace HF := Lib.hid (HF.out.trans f)
  replace HB := Lib.hid (HB.out.fr f)
  replace HZ := Lib.hid (HZ.out.fr f)
  clear f
  rw [HO.out]
  go_wp2_with fail
  refine (spec_l6Phy p _).mono ?_
  rintro e w' ⟨rfl, rfl⟩
  rw [H2.out]
  obtain ⟨_, c0, c1, c2, c3, _, _, _, _⟩ := HB.out
  go_wp2_with fail
  refine (spec_l6Has x.M _ _ p _ (HS.out.fr HF.out).M (by have := HW.out.M; omega)).mono ?_
  rintro e w' ⟨rfl, rfl⟩
  rw [H3.out]
  go_wp2_with fail
  refine (spec_l6Has x.F _ _ p _ (HS.out.fr HF.out).F (by have := HW.out.F; omega)).mono ?_
  rintro e w' ⟨rfl, rfl⟩
  rw [H4.out]
  clear c0 c1 c2 c3
  obtain ⟨_, c0, c1, c2, c3, _, _, _, _⟩ := HB.out
  go_wp2_with fail
  refine (spec_l6Copy x _ _ _ _ _ _ _ _ _ (HS.out.fr HF.out) HK.out.Ml (by have := HK.out.Fl; omega) HK.out.Vl HK.out.Hl).mono ?_
  rintro e v ⟨g1, aF5, g3, g4, c1, cF5, c3, c4, rfl, ow, f⟩
  
  have hzl := HZ.out.lt
  have HC := Lib.hid (ow.mono (show w.heap.size + 2 ≤ _ by omega))
  replace HF := Lib.hid (HF.out.trans f)
  replace HZ := Lib.hid (HZ.out.fr f)
  clear HB ow f
  go_upto_region 4 with fail
  have HX := Lib.hid (Box4.new v (.slice (some ⟨g1, 0, none⟩) x.M.length c1) (.slice aF5 x.F.length cF5) (.slice (some ⟨g3, 0, none⟩) x.V.length c3) (.slice (some ⟨g4, 0, none⟩) x.H.length c4) 25 _ rfl)
  have hvl : w.heap.size + 1 < v.heap.size := HZ.out.lt
  have f := Fr.alloc v (.cells #[.slice (some ⟨g1, 0, none⟩) x.M.length c1, .slice aF5 x.F.length cF5, .slice (some ⟨g3, 0, none⟩) x.V.length c3, .slice (some ⟨g4, 0, none⟩) x.H.length c4] 25)
  have hvl2 : g1 < v.heap.size ∧ g3 < v.heap.size ∧ g4 < v.heap.size := ⟨HC.out.M.lt, HC.out.V.lt, HC.out.H.lt⟩
  have HBF := Lib.hid (fun (g : Nat) (e : aF5 = some ⟨g, 0, none⟩) (h0 : 0 < x.F.length) => show g < v.heap.size by
    rcases HC.out.F with ⟨hq, _⟩ | ⟨g9, e9, _, r9, _⟩
    · omega
    · rw [e9] at e
      cases e
      exact r9.lt)
  have HFL := Lib.hid HK.out.Fl
  replace HC := Lib.hid (HC.out.but (L := []) (But.of f) (by simp))
  replace HF := Lib.hid (HF.out.trans f)
  replace HZ := Lib.hid (HZ.out.fr f)
  clear f
  generalize hvv : v.heap.size = b at HX hvl hvl2 HBF ⊢
  have hbw : w.heap.size + 1 < b := hvl
  clear hvv hvl
  generalize (v.alloc (.cells #[.slice (some ⟨g1, 0, none⟩) x.M.length c1, .slice aF5 x.F.length cF5, .slice (some ⟨g3, 0, none⟩) x.V.length c3, .slice (some ⟨g4, 0, none⟩) x.H.length c4] 25)) = v1 at *
  have fA := Fr.alloc v1 (.cells #[.int .i64 p] 3)
  have HCA := Lib.hid (HC.out.but (L := []) (But.of fA) (by simp))
  have HXA := Lib.hid (HX.out.fr fA)
  have HZA := Lib.hid (HZ.out.fr fA)
  have HFA := Lib.hid (show Fr w (v1.alloc (.cells #[.int .i64 p] 3)) from HF.out.trans fA)
  have HPC := Lib.hid (show (v1.alloc (.cells #[.int .i64 p] 3)).cell? ⟨v1.heap.size, 0, none⟩ = some (.int .i64 p) from (alloc_at v1 _ 3 _ rfl 0).1)
  have hnF : b ∉ bkS x.F.length aF5 := fun hm => by
    have hlF := HX.out.lt
    obtain ⟨g', e', h0', hh'⟩ := rc_bk HC.out.F hm
    have := HBF.out g' e' h0'
    omega
  have HNF := Lib.hid hnF
  have HBW := Lib.hid (show (w.heap.size + 2) ≤ (v1.alloc (.cells #[.int .i64 p] 3)).heap.size by have := HFA.out.size; have := HZA.out.lt; omega)
  clear fA hnF
  obtain ⟨_, y0, y1, y2, y3, yf0, yf1, yf2, yf3⟩ := HX.out
  go_upto_region 5 with (at_builtin; refine wpList_plain rfl fun K hK => wp_append_rc _ _ rfl (w.heap.size + 2) x.F aF5 cF5 rfl HCA.out.F p _ rfl HPC.out (by have := HFL.out; omega) HBW.out ?_; intro gF cF9 v2 hR hCa hBg hgg hbut; have HGF := Lib.hid (show gF ≠ b from fun e => by (rcases hgg with ⟨h0, e2⟩ | hgg; have := HBF.out _ e2 h0; omega; have := HXA.out.lt; omega)); have HCB := Lib.hid (HCA.out.app hR hCa hBg hgg hbut); obtain ⟨FF, hFF⟩ : ∃ FF, x.F ++ [p] = FF := ⟨_, rfl⟩; rw [hFF] at HCB ⊢; have HFF := Lib.hid hFF; clear hFF; refine hK _ _ ?_; have HXB := Lib.hid (HXA.out.but hbut HNF.out); have HZB := Lib.hid (HZA.out.but hbut (fun hm => by obtain ⟨g', e', h0', hh'⟩ := rc_bk HCA.out.F hm; rcases HCA.out.F with ⟨hq, _⟩ | ⟨g9, e9, hb9, _⟩; omega; rw [e9] at e'; cases e'; omega)); have HFB := Lib.hid (show Fr w v2 from fr_but HFA.out hbut (fun k hk => by obtain ⟨g', e', h0', hh'⟩ := rc_bk HCA.out.F hk; rcases HCA.out.F with ⟨hq, _⟩ | ⟨g9, e9, hb9, _⟩; omega; rw [e9] at e'; cases e'; omega)); clear hR hCa hBg hgg hbut y0 y1 y2 y3 yf0 yf1 yf2 yf3; obtain ⟨_, y0, y1, y2, y3, yf0, yf1, yf2, yf3⟩ := HXB.out)
  have hb9 : But [b] v2 (v2.setCell ⟨b, 1, none⟩ (.slice (some ⟨gF, 0, none⟩) FF.length cF9)) := (But.refl _ _).set _ _ _ (.inl (by simp))
  have HXC := Lib.hid (HXB.out.t1 (.slice (some ⟨gF, 0, none⟩) FF.length cF9))
  have hgFb : b ≠ gF := fun e => by
    have h1 := HCB.out.F
    rcases h1 with ⟨hq, _⟩ | ⟨g9, e9, _⟩
    · rw [← HFF.out] at hq; simp at hq
    · cases e9
      exact HGF.out e.symm
  have HCC := Lib.hid (show OwC (w.heap.size + 2) (v2.setCell ⟨b, 1, none⟩ (.slice (some ⟨gF, 0, none⟩) FF.length cF9)) ⟨x.M, FF, x.V, x.H⟩ g1 (some ⟨gF, 0, none⟩) cF9 g3 g4 from ⟨HCB.out.b1, HCB.out.b3, HCB.out.b4, HCB.out.M.but hb9 (by simp; omega), rc_other HCB.out.F _ _ _ (fun g e h0 => by cases e; exact hgFb), HCB.out.V.but hb9 (by simp; omega), HCB.out.H.but hb9 (by simp; omega), HCB.out.a13, HCB.out.a14, HCB.out.a34, HCB.out.aF⟩)
  have HZC := Lib.hid (HZB.out.but hb9 (by simp; omega))
  have HFC := Lib.hid (show Fr w (v2.setCell ⟨b, 1, none⟩ (.slice (some ⟨gF, 0, none⟩) FF.length cF9)) from fr_new HFB.out hb9 (by omega))
  clear y0 y1 y2 y3 yf0 yf1 yf2 yf3 hb9 HCB HXB HZB HFB HCA HXA HZA HFA HC HX HZ HF hgFb
  generalize (v2.setCell ⟨b, 1, none⟩ (.slice (some ⟨gF, 0, none⟩) FF.length cF9)) = v3 at *
  have HC := HCC
  have HX := HXC
  have HZ := HZC
  have HF := HFC
  clear HCC HXC HZC HFC
  generalize v3 = vl at *
  obtain ⟨_, y0, y1, y2, y3, yf0, yf1, yf2, yf3⟩ := HX.out
  have hlF : FF.length = x.F.length + 1 := by rw [← HFF.out]; simp
  rw [show Value.slice (some ⟨gF, 0, none⟩) FF.length cF9 = .slice (some ⟨gF, 0, none⟩) (freeG x p).F.length cF9 by show _ = Value.slice _ (x.F ++ [p]).length _; rw [HFF.out]] at y1
  rw [← HFF.out] at HC
  obtain ⟨_, z0, z1, z2, z3, zf0, zf1, zf2, zf3⟩ := HZ.out
  have hst : ∀ a b c d, But [w.heap.size + 1] vl ((((vl.setCell ⟨w.heap.size + 1, 0, none⟩ a).setCell ⟨w.heap.size + 1, 1, none⟩ b).setCell ⟨w.heap.size + 1, 2, none⟩ c).setCell ⟨w.heap.size + 1, 3, none⟩ d) := fun a b c d => (But.refl _ _).set4 (w.heap.size + 1) a b c d (.inl (by simp))
  have HST := Lib.hid hst
  clear hst
  go_wp2_with fail
  refine bodyPost_ret (v := .agg #[.slice (some ⟨g1, 0, none⟩) (freeG x p).M.length c1, .slice (some ⟨gF, 0, none⟩) (freeG x p).F.length cF9, .slice (some ⟨g3, 0, none⟩) (freeG x p).V.length c3, .slice (some ⟨g4, 0, none⟩) (freeG x p).H.length c4]) (by simp [results, Try.results31, go_sem, World.cell?_setCell_other, World.cell?_setCell_same, z0, z1, z2, z3, freeG, putG, backG, takeG]) rfl ?_
  exact ⟨_, _, _, _, _, _, _, _, rfl, ((HC.out.but (HST.out _ _ _ _) (fun k hk => by have := List.mem_singleton.1 hk; omega)).mono (by omega)).vc, fr_but HF.out (HST.out _ _ _ _) (fun k hk => by have := List.mem_singleton.1 hk; omega)⟩
theorem spec_NamFree (x : Nm) (aM aF aV aH : Option Addr) (cM cF cV cH : Nat) (p : Int) (w : World) (h : SrcN w x aM aF aV aH) (hf : Few6 x) :
    Calls Try.prog 31 #[.agg #[.slice aM x.M.length cM, .slice aF x.F.length cF, .slice aV x.V.length cV, .slice aH x.H.length cH], .int .i64 p] w (NmP (freeA x p) w) := by
  cases h1 : okN x
  · rw [show freeA x p = nm0 by simp [freeA, h1]]
    exact spec_NamFree_1 x _ _ _ _ _ _ _ _ p w h hf h1
  · cases h2 : phyB p
    · rw [show freeA x p = nm0 by simp [freeA, looseB, h2]]
      exact spec_NamFree_2 x _ _ _ _ _ _ _ _ p w h hf h1 h2
    · cases h3 : hasB x.M p
      · cases h4 : hasB x.F p
        · rw [show freeA x p = freeG x p by simp [freeA, looseB, h1, h2, h3, h4]]
          exact spec_NamFree_5 x _ _ _ _ _ _ _ _ p w h hf h1 h2 h3 h4
        · rw [show freeA x p = nm0 by simp [freeA, looseB, h4]]
          exact spec_NamFree_4 x _ _ _ _ _ _ _ _ p w h hf h1 h2 h3 h4
      · rw [show freeA x p = nm0 by simp [freeA, looseB, h3]]
        exact spec_NamFree_3 x _ _ _ _ _ _ _ _ p w h hf h1 h2 h3

end Go.Proofs.Ytddllgjieccikaa
