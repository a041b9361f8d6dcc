/- The program's NamGet, NamTake. -/
import Derived.Test.YtddllgjieccikaaN10
namespace Go.Proofs.Ytddllgjieccikaa
open Go.RowKit
set_option linter.unusedVariables false
set_option linter.unusedSimpArgs false
set_option maxRecDepth 8000 in
set_option maxHeartbeats 4000000 in
theorem impl_NamGet_1 (x : Nm) (aM aF aV aH : Option Addr) (cM cF cV cH : Nat) (d : Int) (w : World) (h : SrcN w x aM aF aV aH) (hf : Few6 x) (h1 : okN x = false) :
    Calls Try.prog 36 #[.agg #[.slice aM x.M.length cM, .slice aF x.F.length cF, .slice aV x.V.length cV, .slice aH x.H.length cH], .int .i64 d] w (fun e w' => e = .returned (.tuple #[.int .i64 0, .bool false]) ∧ Fr w w') := by
  have F2 : Fr w (w.alloc (.cells #[.slice aM x.M.length cM, .slice aF x.F.length cF, .slice aV x.V.length cV, .slice aH x.H.length cH] 25)) := by (repeat' first | (with_reducible exact Below.refl _ _) | (with_reducible assumption) | ((with_reducible refine Below.setCell ?_ ?hb _); (case hb => first | exact Nat.le_refl _ | (simp; done) | (simp; omega) | omega)) | ((with_reducible refine Below.alloc ?_ ?hb _); (case hb => first | exact Nat.le_refl _ | (simp; done) | (simp; omega) | omega)) | (with_reducible refine Below.drew ?_))
  have HF := Lib.hid F2
  have HB := Lib.hid (show Box4 (w.alloc (.cells #[.slice aM x.M.length cM, .slice aF x.F.length cF, .slice aV x.V.length cV, .slice aH x.H.length cH] 25)) w.heap.size (.slice aM x.M.length cM) (.slice aF x.F.length cF) (.slice aV x.V.length cV) (.slice aH x.H.length cH) from Box4.new _ _ _ _ _ _ _ rfl)
  have HS := Lib.hid h
  have HW := Lib.hid hf
  have HO := Lib.hid h1
  clear h1
  clear F2 h hf
  go_enter Try.func36, Try.ntmps36
  go_upto_region 1 with fail
  generalize (w.alloc (.cells #[.slice aM x.M.length cM, .slice aF x.F.length cF, .slice aV x.V.length cV, .slice aH x.H.length cH] 25)) = u at *
  obtain ⟨_, c0, c1, c2, c3, _, _, _, _⟩ := HB.out
  go_wp2_with fail
  refine (impl_NamOk x _ _ _ _ _ _ _ _ _ (HS.out.fr HF.out) HW.out).mono ?_
  rintro e u1 ⟨rfl, f⟩
  clear c0 c1 c2 c3
  replace HF := Lib.hid (HF.out.trans f)
  replace HB := Lib.hid (HB.out.fr f)
  clear f
  rw [HO.out]
  go_wp2_with fail
  refine bodyPost_ret (v := .tuple #[.int .i64 0, .bool false]) (by simp [results, Try.results36, go_sem]) rfl ⟨rfl, HF.out⟩
set_option maxRecDepth 8000 in
set_option maxHeartbeats 4000000 in
theorem impl_NamGet_2 (x : Nm) (aM aF aV aH : Option Addr) (cM cF cV cH : Nat) (d : Int) (w : World) (h : SrcN w x aM aF aV aH) (hf : Few6 x) (h1 : okN x = true) (h2 : (decide (0 ≤ d) && decide (d < 8)) = false) :
    Calls Try.prog 36 #[.agg #[.slice aM x.M.length cM, .slice aF x.F.length cF, .slice aV x.V.length cV, .slice aH x.H.length cH], .int .i64 d] w (fun e w' => e = .returned (.tuple #[.int .i64 0, .bool false]) ∧ Fr w w') := by
  have F2 : Fr w (w.alloc (.cells #[.slice aM x.M.length cM, .slice aF x.F.length cF, .slice aV x.V.length cV, .slice aH x.H.length cH] 25)) := by (repeat' first | (with_reducible exact Below.refl _ _) | (with_reducible assumption) | ((with_reducible refine Below.setCell ?_ ?hb _); (case hb => first | exact Nat.le_refl _ | (simp; done) | (simp; omega) | omega)) | ((with_reducible refine Below.alloc ?_ ?hb _); (case hb => first | exact Nat.le_refl _ | (simp; done) | (simp; omega) | omega)) | (with_reducible refine Below.drew ?_))
  have HF := Lib.hid F2
  have HB := Lib.hid (show Box4 (w.alloc (.cells #[.slice aM x.M.length cM, .slice aF x.F.length cF, .slice aV x.V.length cV, .slice aH x.H.length cH] 25)) w.heap.size (.slice aM x.M.length cM) (.slice aF x.F.length cF) (.slice aV x.V.length cV) (.slice aH x.H.length cH) from Box4.new _ _ _ _ _ _ _ rfl)
  have HS := Lib.hid h
  have HW := Lib.hid hf
  have HO := Lib.hid h1
  have H2 := Lib.hid h2
  clear h1 h2
  clear F2 h hf
  go_enter Try.func36, Try.ntmps36
  go_upto_region 1 with fail
  generalize (w.alloc (.cells #[.slice aM x.M.length cM, .slice aF x.F.length cF, .slice aV x.V.length cV, .slice aH x.H.length cH] 25)) = u at *
  obtain ⟨_, c0, c1, c2, c3, _, _, _, _⟩ := HB.out
  go_wp2_with fail
  refine (impl_NamOk x _ _ _ _ _ _ _ _ _ (HS.out.fr HF.out) HW.out).mono ?_
  rintro e u1 ⟨rfl, f⟩
  clear c0 c1 c2 c3
  replace HF := Lib.hid (HF.out.trans f)
  replace HB := Lib.hid (HB.out.fr f)
  clear f
  rw [HO.out]
  go_wp2_with fail
  refine (impl_isReg d _).mono ?_
  rintro e w' ⟨rfl, rfl⟩
  rw [H2.out]
  go_wp2_with fail
  refine bodyPost_ret (v := .tuple #[.int .i64 0, .bool false]) (by simp [results, Try.results36, go_sem]) rfl ⟨rfl, HF.out⟩
set_option maxRecDepth 8000 in
set_option maxHeartbeats 4000000 in
theorem impl_NamGet_3 (x : Nm) (aM aF aV aH : Option Addr) (cM cF cV cH : Nat) (d : Int) (w : World) (h : SrcN w x aM aF aV aH) (hf : Few6 x) (h1 : okN x = true) (h2 : (decide (0 ≤ d) && decide (d < 8)) = true) :
    Calls Try.prog 36 #[.agg #[.slice aM x.M.length cM, .slice aF x.F.length cF, .slice aV x.V.length cV, .slice aH x.H.length cH], .int .i64 d] w (fun e w' => e = .returned (.tuple #[.int .i64 (x.V.getD (x.M.getD d.toNat 0).toNat 0), .bool (x.H.getD (x.M.getD d.toNat 0).toNat false)]) ∧ Fr w w') := by
  have F2 : Fr w (w.alloc (.cells #[.slice aM x.M.length cM, .slice aF x.F.length cF, .slice aV x.V.length cV, .slice aH x.H.length cH] 25)) := by (repeat' first | (with_reducible exact Below.refl _ _) | (with_reducible assumption) | ((with_reducible refine Below.setCell ?_ ?hb _); (case hb => first | exact Nat.le_refl _ | (simp; done) | (simp; omega) | omega)) | ((with_reducible refine Below.alloc ?_ ?hb _); (case hb => first | exact Nat.le_refl _ | (simp; done) | (simp; omega) | omega)) | (with_reducible refine Below.drew ?_))
  have HF := Lib.hid F2
  have HB := Lib.hid (show Box4 (w.alloc (.cells #[.slice aM x.M.length cM, .slice aF x.F.length cF, .slice aV x.V.length cV, .slice aH x.H.length cH] 25)) w.heap.size (.slice aM x.M.length cM) (.slice aF x.F.length cF) (.slice aV x.V.length cV) (.slice aH x.H.length cH) from Box4.new _ _ _ _ _ _ _ rfl)
  have HS := Lib.hid h
  have HW := Lib.hid hf
  have HO := Lib.hid h1
  have H2 := Lib.hid h2
  have HK := Lib.hid (okN_ok h1)
  have HDb := Lib.hid (reg6_bd h2)
  clear h1 h2
  clear F2 h hf
  go_enter Try.func36, Try.ntmps36
  go_upto_region 1 with fail
  generalize (w.alloc (.cells #[.slice aM x.M.length cM, .slice aF x.F.length cF, .slice aV x.V.length cV, .slice aH x.H.length cH] 25)) = u at *
  obtain ⟨_, c0, c1, c2, c3, _, _, _, _⟩ := HB.out
  go_wp2_with fail
  refine (impl_NamOk x _ _ _ _ _ _ _ _ _ (HS.out.fr HF.out) HW.out).mono ?_
  rintro e u1 ⟨rfl, f⟩
  clear c0 c1 c2 c3
  replace HF := Lib.hid (HF.out.trans f)
  replace HB := Lib.hid (HB.out.fr f)
  clear f
  rw [HO.out]
  go_wp2_with fail
  refine (impl_isReg d _).mono ?_
  rintro e w' ⟨rfl, rfl⟩
  rw [H2.out]
  obtain ⟨q, rfl⟩ : ∃ q : Nat, d = q := ⟨d.toNat, by have := HDb.out; omega⟩
  have hq8 : q < 8 := by have := HDb.out; omega
  have hqM := HK.out.mp q (by omega)
  obtain ⟨gM, oM, haM, hglM, hcM⟩ := (HS.out.fr HF.out).M (by rw [HK.out.Ml]; omega)
  obtain ⟨gV, oV, haV, hglV, hcV⟩ := (HS.out.fr HF.out).V (by rw [HK.out.Vl]; omega)
  obtain ⟨gH, oH, haH, hglH, hcH⟩ := (HS.out.fr HF.out).H (by rw [HK.out.Hl]; omega)
  have d0 := hcM q (by rw [HK.out.Ml]; omega)
  simp only [ivl] at d0
  obtain ⟨mo, hmo⟩ : ∃ mo, x.M.getD q 0 = mo := ⟨_, rfl⟩
  have HMO := Lib.hid hmo
  rw [hmo] at d0 hqM
  clear hmo
  obtain ⟨r, rfl⟩ : ∃ r : Nat, mo = r := ⟨mo.toNat, by omega⟩
  have hr20 : r < 20 := by omega
  have hl0 : q < x.M.length := by rw [HK.out.Ml]; omega
  have hl1 : r < x.V.length := by rw [HK.out.Vl]; omega
  have hl2 : r < x.H.length := by rw [HK.out.Hl]; omega
  have hq0 : (0 : Int) ≤ (q : Int) := by omega
  have hr0 : (0 : Int) ≤ (r : Int) := by omega
  have d1 := hcV r hl1
  have d2 := hcH r hl2
  simp only [ivl, bvl] at d1 d2
  obtain ⟨v0, hv0⟩ : ∃ v0, x.V.getD r 0 = v0 := ⟨_, rfl⟩
  obtain ⟨b0, hb0⟩ : ∃ b0, x.H.getD r false = b0 := ⟨_, rfl⟩
  have HV0 := Lib.hid hv0
  have HB0 := Lib.hid hb0
  rw [hv0] at d1
  rw [hb0] at d2
  clear hcM hcV hcH hv0 hb0 hqM
  obtain ⟨_, c0, c1, c2, c3, _, _, _, _⟩ := HB.out
  rw [haM] at c0
  rw [haV] at c2
  rw [haH] at c3
  clear haM haV haH
  go_wp2_with fail
  go_quiet (fail)
  have HFq := Lib.hid (show Fr w _ from HF.out.trans (Below.drewN (Below.refl _ _) nq))
  go_wp2_with fail
  refine bodyPost_ret (v := .tuple #[.int .i64 v0, .bool b0]) (by simp [results, Try.results36, go_sem]) rfl ⟨?_, HFq.out⟩
  have e1 : x.M.getD (q : Int).toNat 0 = (r : Int) := by rw [Int.toNat_natCast]; exact HMO.out
  rw [e1, Int.toNat_natCast, HV0.out, HB0.out]
theorem impl_NamGet (x : Nm) (aM aF aV aH : Option Addr) (cM cF cV cH : Nat) (d : Int) (w : World) (h : SrcN w x aM aF aV aH) (hf : Few6 x) :
    Calls Try.prog 36 #[.agg #[.slice aM x.M.length cM, .slice aF x.F.length cF, .slice aV x.V.length cV, .slice aH x.H.length cH], .int .i64 d] w fun e w' => e = .returned (.tuple #[.int .i64 (getA x d).1, .bool (getA x d).2]) ∧ Fr w w' := by
  cases h1 : okN x
  · rw [show getA x d = (0, false) by simp [getA, h1]]
    exact impl_NamGet_1 x _ _ _ _ _ _ _ _ d w h hf h1
  · cases h2 : (decide (0 ≤ d) && decide (d < 8))
    · rw [show getA x d = (0, false) by unfold getA; rw [h2]; simp]
      exact impl_NamGet_2 x _ _ _ _ _ _ _ _ d w h hf h1 h2
    · rw [show getA x d = (x.V.getD (x.M.getD d.toNat 0).toNat 0, x.H.getD (x.M.getD d.toNat 0).toNat false) by unfold getA; rw [h1, h2]; rfl]
      exact impl_NamGet_3 x _ _ _ _ _ _ _ _ d w h hf h1 h2
set_option maxRecDepth 8000 in
set_option maxHeartbeats 4000000 in
theorem spec_NamGet_1 (x : Nm) (aM aF aV aH : Option Addr) (cM cF cV cH : Nat) (d : Int) (w : World) (h : SrcN w x aM aF aV aH) (hf : Few6 x) (h1 : okN x = false) :
    Calls Try.prog 35 #[.agg #[.slice aM x.M.length cM, .slice aF x.F.length cF, .slice aV x.V.length cV, .slice aH x.H.length cH], .int .i64 d] w (fun e w' => e = .returned (.tuple #[.int .i64 0, .bool false]) ∧ Fr w w') := by
  have F2 : Fr w (w.alloc (.cells #[.slice aM x.M.length cM, .slice aF x.F.length cF, .slice aV x.V.length cV, .slice aH x.H.length cH] 25)) := by (repeat' first | (with_reducible exact Below.refl _ _) | (with_reducible assumption) | ((with_reducible refine Below.setCell ?_ ?hb _); (case hb => first | exact Nat.le_refl _ | (simp; done) | (simp; omega) | omega)) | ((with_reducible refine Below.alloc ?_ ?hb _); (case hb => first | exact Nat.le_refl _ | (simp; done) | (simp; omega) | omega)) | (with_reducible refine Below.drew ?_))
  have HF := Lib.hid F2
  have HB := Lib.hid (show Box4 (w.alloc (.cells #[.slice aM x.M.length cM, .slice aF x.F.length cF, .slice aV x.V.length cV, .slice aH x.H.length cH] 25)) w.heap.size (.slice aM x.M.length cM) (.slice aF x.F.length cF) (.slice aV x.V.length cV) (.slice aH x.H.length cH) from Box4.new _ _ _ _ _ _ _ rfl)
  have HS := Lib.hid h
  have HW := Lib.hid hf
  have HO := Lib.hid h1
  clear h1
  clear F2 h hf
  go_enter Try.func35, Try.ntmps35
  go_upto_region 1 with fail
  generalize (w.alloc (.cells #[.slice aM x.M.length cM, .slice aF x.F.length cF, .slice aV x.V.length cV, .slice aH x.H.length cH] 25)) = u at *
  obtain ⟨_, c0, c1, c2, c3, _, _, _, _⟩ := HB.out
  go_wp2_with fail
  refine (spec_NamOk x _ _ _ _ _ _ _ _ _ (HS.out.fr HF.out) HW.out).mono ?_
  rintro e u1 ⟨rfl, f⟩
  clear c0 c1 c2 c3
  replace HF := Lib.hid (HF.out.trans f)
  replace HB := Lib.hid (HB.out.fr f)
  clear f
  rw [HO.out]
  go_wp2_with fail
  refine bodyPost_ret (v := .tuple #[.int .i64 0, .bool false]) (by simp [results, Try.results35, go_sem]) rfl ⟨rfl, HF.out⟩
set_option maxRecDepth 8000 in
set_option maxHeartbeats 4000000 in
theorem spec_NamGet_2 (x : Nm) (aM aF aV aH : Option Addr) (cM cF cV cH : Nat) (d : Int) (w : World) (h : SrcN w x aM aF aV aH) (hf : Few6 x) (h1 : okN x = true) (h2 : decide (0 ≤ d ∧ d ≤ 7) = false) :
    Calls Try.prog 35 #[.agg #[.slice aM x.M.length cM, .slice aF x.F.length cF, .slice aV x.V.length cV, .slice aH x.H.length cH], .int .i64 d] w (fun e w' => e = .returned (.tuple #[.int .i64 0, .bool false]) ∧ Fr w w') := by
  have F2 : Fr w (w.alloc (.cells #[.slice aM x.M.length cM, .slice aF x.F.length cF, .slice aV x.V.length cV, .slice aH x.H.length cH] 25)) := by (repeat' first | (with_reducible exact Below.refl _ _) | (with_reducible assumption) | ((with_reducible refine Below.setCell ?_ ?hb _); (case hb => first | exact Nat.le_refl _ | (simp; done) | (simp; omega) | omega)) | ((with_reducible refine Below.alloc ?_ ?hb _); (case hb => first | exact Nat.le_refl _ | (simp; done) | (simp; omega) | omega)) | (with_reducible refine Below.drew ?_))
  have HF := Lib.hid F2
  have HB := Lib.hid (show Box4 (w.alloc (.cells #[.slice aM x.M.length cM, .slice aF x.F.length cF, .slice aV x.V.length cV, .slice aH x.H.length cH] 25)) w.heap.size (.slice aM x.M.length cM) (.slice aF x.F.length cF) (.slice aV x.V.length cV) (.slice aH x.H.length cH) from Box4.new _ _ _ _ _ _ _ rfl)
  have HS := Lib.hid h
  have HW := Lib.hid hf
  have HO := Lib.hid h1
  have H2 := Lib.hid h2
  clear h1 h2
  clear F2 h hf
  go_enter Try.func35, Try.ntmps35
  go_upto_region 1 with fail
  generalize (w.alloc (.cells #[.slice aM x.M.length cM, .slice aF x.F.length cF, .slice aV x.V.length cV, .slice aH x.H.length cH] 25)) = u at *
  obtain ⟨_, c0, c1, c2, c3, _, _, _, _⟩ := HB.out
  go_wp2_with fail
  refine (spec_NamOk x _ _ _ _ _ _ _ _ _ (HS.out.fr HF.out) HW.out).mono ?_
  rintro e u1 ⟨rfl, f⟩
  clear c0 c1 c2 c3
  replace HF := Lib.hid (HF.out.trans f)
  replace HB := Lib.hid (HB.out.fr f)
  clear f
  rw [HO.out]
  go_wp2_with fail
  refine (spec_l2Reg d _).mono ?_
  rintro e w' ⟨rfl, rfl⟩
  rw [H2.out]
  go_wp2_with fail
  refine bodyPost_ret (v := .tuple #[.int .i64 0, .bool false]) (by simp [results, Try.results35, go_sem]) rfl ⟨rfl, HF.out⟩
set_option maxRecDepth 8000 in
set_option maxHeartbeats 4000000 in
theorem spec_NamGet_3 (x : Nm) (aM aF aV aH : Option Addr) (cM cF cV cH : Nat) (d : Int) (w : World) (h : SrcN w x aM aF aV aH) (hf : Few6 x) (h1 : okN x = true) (h2 : decide (0 ≤ d ∧ d ≤ 7) = true) :
    Calls Try.prog 35 #[.agg #[.slice aM x.M.length cM, .slice aF x.F.length cF, .slice aV x.V.length cV, .slice aH x.H.length cH], .int .i64 d] w (fun e w' => e = .returned (.tuple #[.int .i64 (x.V.getD (x.M.getD d.toNat 0).toNat 0), .bool (x.H.getD (x.M.getD d.toNat 0).toNat false)]) ∧ Fr w w') := by
  have F2 : Fr w (w.alloc (.cells #[.slice aM x.M.length cM, .slice aF x.F.length cF, .slice aV x.V.length cV, .slice aH x.H.length cH] 25)) := by (repeat' first | (with_reducible exact Below.refl _ _) | (with_reducible assumption) | ((with_reducible refine Below.setCell ?_ ?hb _); (case hb => first | exact Nat.le_refl _ | (simp; done) | (simp; omega) | omega)) | ((with_reducible refine Below.alloc ?_ ?hb _); (case hb => first | exact Nat.le_refl _ | (simp; done) | (simp; omega) | omega)) | (with_reducible refine Below.drew ?_))
  have HF := Lib.hid F2
  have HB := Lib.hid (show Box4 (w.alloc (.cells #[.slice aM x.M.length cM, .slice aF x.F.length cF, .slice aV x.V.length cV, .slice aH x.H.length cH] 25)) w.heap.size (.slice aM x.M.length cM) (.slice aF x.F.length cF) (.slice aV x.V.length cV) (.slice aH x.H.length cH) from Box4.new _ _ _ _ _ _ _ rfl)
  have HS := Lib.hid h
  have HW := Lib.hid hf
  have HO := Lib.hid h1
  have H2 := Lib.hid h2
  have HK := Lib.hid (okN_ok h1)
  have HDb := Lib.hid (show 0 ≤ d ∧ d < 8 by have := of_decide_eq_true h2; omega)
  clear h1 h2
  clear F2 h hf
  go_enter Try.func35, Try.ntmps35
  go_upto_region 1 with fail
  generalize (w.alloc (.cells #[.slice aM x.M.length cM, .slice aF x.F.length cF, .slice aV x.V.length cV, .slice aH x.H.length cH] 25)) = u at *
  obtain ⟨_, c0, c1, c2, c3, _, _, _, _⟩ := HB.out
  go_wp2_with fail
  refine (spec_NamOk x _ _ _ _ _ _ _ _ _ (HS.out.fr HF.out) HW.out).mono ?_
  rintro e u1 ⟨rfl, f⟩
  clear c0 c1 c2 c3
  replace HF := Lib.hid (HF.out.trans f)
  replace HB := Lib.hid (HB.out.fr f)
  clear f
  rw [HO.out]
  go_wp2_with fail
  refine (spec_l2Reg d _).mono ?_
  rintro e w' ⟨rfl, rfl⟩
  rw [H2.out]
  obtain ⟨q, rfl⟩ : ∃ q : Nat, d = q := ⟨d.toNat, by have := HDb.out; omega⟩
  have hq8 : q < 8 := by have := HDb.out; omega
  have hqM := HK.out.mp q (by omega)
  obtain ⟨gM, oM, haM, hglM, hcM⟩ := (HS.out.fr HF.out).M (by rw [HK.out.Ml]; omega)
  obtain ⟨gV, oV, haV, hglV, hcV⟩ := (HS.out.fr HF.out).V (by rw [HK.out.Vl]; omega)
  obtain ⟨gH, oH, haH, hglH, hcH⟩ := (HS.out.fr HF.out).H (by rw [HK.out.Hl]; omega)
  have d0 := hcM q (by rw [HK.out.Ml]; omega)
  simp only [ivl] at d0
  obtain ⟨mo, hmo⟩ : ∃ mo, x.M.getD q 0 = mo := ⟨_, rfl⟩
  have HMO := Lib.hid hmo
  rw [hmo] at d0 hqM
  clear hmo
  obtain ⟨r, rfl⟩ : ∃ r : Nat, mo = r := ⟨mo.toNat, by omega⟩
  have hr20 : r < 20 := by omega
  have hl0 : q < x.M.length := by rw [HK.out.Ml]; omega
  have hl1 : r < x.V.length := by rw [HK.out.Vl]; omega
  have hl2 : r < x.H.length := by rw [HK.out.Hl]; omega
  have hq0 : (0 : Int) ≤ (q : Int) := by omega
  have hr0 : (0 : Int) ≤ (r : Int) := by omega
  have d1 := hcV r hl1
  have d2 := hcH r hl2
  simp only [ivl, bvl] at d1 d2
  obtain ⟨v0, hv0⟩ : ∃ v0, x.V.getD r 0 = v0 := ⟨_, rfl⟩
  obtain ⟨b0, hb0⟩ : ∃ b0, x.H.getD r false = b0 := ⟨_, rfl⟩
  have HV0 := Lib.hid hv0
  have HB0 := Lib.hid hb0
  rw [hv0] at d1
  rw [hb0] at d2
  clear hcM hcV hcH hv0 hb0 hqM
  obtain ⟨_, c0, c1, c2, c3, _, _, _, _⟩ := HB.out
  rw [haM] at c0
  rw [haV] at c2
  rw [haH] at c3
  clear haM haV haH
  go_wp2_with fail
  go_quiet (fail)
  have HFq := Lib.hid (show Fr w _ from HF.out.trans (Below.drewN (Below.refl _ _) nq))
  go_wp2_with fail
  refine bodyPost_ret (v := .tuple #[.int .i64 v0, .bool b0]) (by simp [results, Try.results35, go_sem]) rfl ⟨?_, HFq.out⟩
  have e1 : x.M.getD (q : Int).toNat 0 = (r : Int) := by rw [Int.toNat_natCast]; exact HMO.out
  rw [e1, Int.toNat_natCast, HV0.out, HB0.out]
theorem spec_NamGet (x : Nm) (aM aF aV aH : Option Addr) (cM cF cV cH : Nat) (d : Int) (w : World) (h : SrcN w x aM aF aV aH) (hf : Few6 x) :
    Calls Try.prog 35 #[.agg #[.slice aM x.M.length cM, .slice aF x.F.length cF, .slice aV x.V.length cV, .slice aH x.H.length cH], .int .i64 d] w fun e w' => e = .returned (.tuple #[.int .i64 (getA x d).1, .bool (getA x d).2]) ∧ Fr w w' := by
  cases h1 : okN x
  · rw [show getA x d = (0, false) by simp [getA, h1]]
    exact spec_NamGet_1 x _ _ _ _ _ _ _ _ d w h hf h1
  · cases h2 : (decide (0 ≤ d) && decide (d < 8))
    · rw [show getA x d = (0, false) by unfold getA; rw [h2]; simp]
      exact spec_NamGet_2 x _ _ _ _ _ _ _ _ d w h hf h1 (by simp at h2 ⊢; omega)
    · rw [show getA x d = (x.V.getD (x.M.getD d.toNat 0).toNat 0, x.H.getD (x.M.getD d.toNat 0).toNat false) by unfold getA; rw [h1, h2]; rfl]
      exact spec_NamGet_3 x _ _ _ _ _ _ _ _ d w h hf h1 (by simp at h2 ⊢; omega)

end Go.Proofs.Ytddllgjieccikaa
