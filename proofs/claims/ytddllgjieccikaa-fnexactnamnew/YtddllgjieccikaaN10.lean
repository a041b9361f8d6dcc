/- The program's NamPut, NamFree, NamBack, NamGet. -/
import Derived.Test.YtddllgjieccikaaN8
import Derived.Test.YtddllgjieccikaaN9
namespace Go.Proofs.Ytddllgjieccikaa
open Go.RowKit
set_option linter.unusedVariables false
set_option linter.unusedSimpArgs false
theorem okN_ok {x : Nm} (h : okN x = true) : OkN x := (okN_iff x).1 h
set_option maxRecDepth 8000 in
set_option maxHeartbeats 4000000 in
theorem impl_isLoose_1 (x : Nm) (aM aF aV aH : Option Addr) (cM cF cV cH : Nat) (p : Int) (w : World) (h : SrcN w x aM aF aV aH) (hf : Few6 x) (h1 : phyB p = false) :
    Calls Try.prog 75 #[.agg #[.slice aM x.M.length cM, .slice aF x.F.length cF, .slice aV x.V.length cV, .slice aH x.H.length cH], .int .i64 p] w (fun e w' => e = .returned (.bool false) ∧ Fr w w') := by
  have F2 : Fr w (w.alloc (.cells #[.slice aM x.M.length cM, .slice aF x.F.length cF, .slice aV x.V.length cV, .slice aH x.H.length cH] 25)) := by (repeat' first | (with_reducible exact Below.refl _ _) | (with_reducible assumption) | ((with_reducible refine Below.setCell ?_ ?hb _); (case hb => first | exact Nat.le_refl _ | (simp; done) | (simp; omega) | omega)) | ((with_reducible refine Below.alloc ?_ ?hb _); (case hb => first | exact Nat.le_refl _ | (simp; done) | (simp; omega) | omega)) | (with_reducible refine Below.drew ?_))
  have HF := Lib.hid F2
  have HB := Lib.hid (show Box4 (w.alloc (.cells #[.slice aM x.M.length cM, .slice aF x.F.length cF, .slice aV x.V.length cV, .slice aH x.H.length cH] 25)) w.heap.size (.slice aM x.M.length cM) (.slice aF x.F.length cF) (.slice aV x.V.length cV) (.slice aH x.H.length cH) from Box4.new _ _ _ _ _ _ _ rfl)
  have HS := Lib.hid h
  have HW := Lib.hid hf
  have H1 := Lib.hid h1
  clear h1
  clear F2 h hf
  go_enter Try.func75, Try.ntmps75
  go_upto_region 1 with fail
  generalize (w.alloc (.cells #[.slice aM x.M.length cM, .slice aF x.F.length cF, .slice aV x.V.length cV, .slice aH x.H.length cH] 25)) = u at *
  obtain ⟨_, c0, c1, c2, c3, _, _, _, _⟩ := HB.out
  go_wp2_with fail
  refine (impl_isPhy p _).mono ?_
  rintro e w' ⟨rfl, rfl⟩
  rw [H1.out]
  go_wp2_with fail
  go_ret
  exact ⟨rfl, HF.out⟩
set_option maxRecDepth 8000 in
set_option maxHeartbeats 4000000 in
theorem impl_isLoose_2 (x : Nm) (aM aF aV aH : Option Addr) (cM cF cV cH : Nat) (p : Int) (w : World) (h : SrcN w x aM aF aV aH) (hf : Few6 x) (h1 : phyB p = true) (h2 : hasB x.M p = true) :
    Calls Try.prog 75 #[.agg #[.slice aM x.M.length cM, .slice aF x.F.length cF, .slice aV x.V.length cV, .slice aH x.H.length cH], .int .i64 p] w (fun e w' => e = .returned (.bool false) ∧ Fr w w') := by
  have F2 : Fr w (w.alloc (.cells #[.slice aM x.M.length cM, .slice aF x.F.length cF, .slice aV x.V.length cV, .slice aH x.H.length cH] 25)) := by (repeat' first | (with_reducible exact Below.refl _ _) | (with_reducible assumption) | ((with_reducible refine Below.setCell ?_ ?hb _); (case hb => first | exact Nat.le_refl _ | (simp; done) | (simp; omega) | omega)) | ((with_reducible refine Below.alloc ?_ ?hb _); (case hb => first | exact Nat.le_refl _ | (simp; done) | (simp; omega) | omega)) | (with_reducible refine Below.drew ?_))
  have HF := Lib.hid F2
  have HB := Lib.hid (show Box4 (w.alloc (.cells #[.slice aM x.M.length cM, .slice aF x.F.length cF, .slice aV x.V.length cV, .slice aH x.H.length cH] 25)) w.heap.size (.slice aM x.M.length cM) (.slice aF x.F.length cF) (.slice aV x.V.length cV) (.slice aH x.H.length cH) from Box4.new _ _ _ _ _ _ _ rfl)
  have HS := Lib.hid h
  have HW := Lib.hid hf
  have H1 := Lib.hid h1
  have H2 := Lib.hid h2
  clear h2
  clear h1
  clear F2 h hf
  go_enter Try.func75, Try.ntmps75
  go_upto_region 1 with fail
  generalize (w.alloc (.cells #[.slice aM x.M.length cM, .slice aF x.F.length cF, .slice aV x.V.length cV, .slice aH x.H.length cH] 25)) = u at *
  obtain ⟨_, c0, c1, c2, c3, _, _, _, _⟩ := HB.out
  go_wp2_with fail
  refine (impl_isPhy p _).mono ?_
  rintro e w' ⟨rfl, rfl⟩
  rw [H1.out]
  go_wp2_with fail
  refine (slices_Contains x.M _ _ p _ (HS.out.fr HF.out).M (by have := HW.out.M; omega)).mono ?_
  rintro e w' ⟨rfl, rfl⟩
  rw [H2.out]
  go_wp2_with fail
  go_ret
  exact ⟨rfl, HF.out⟩
set_option maxRecDepth 8000 in
set_option maxHeartbeats 4000000 in
theorem impl_isLoose_3 (x : Nm) (aM aF aV aH : Option Addr) (cM cF cV cH : Nat) (p : Int) (w : World) (h : SrcN w x aM aF aV aH) (hf : Few6 x) (h1 : phyB p = true) (h2 : hasB x.M p = false) :
    Calls Try.prog 75 #[.agg #[.slice aM x.M.length cM, .slice aF x.F.length cF, .slice aV x.V.length cV, .slice aH x.H.length cH], .int .i64 p] w (fun e w' => e = .returned (.bool (!hasB x.F p)) ∧ Fr w w') := by
  have F2 : Fr w (w.alloc (.cells #[.slice aM x.M.length cM, .slice aF x.F.length cF, .slice aV x.V.length cV, .slice aH x.H.length cH] 25)) := by (repeat' first | (with_reducible exact Below.refl _ _) | (with_reducible assumption) | ((with_reducible refine Below.setCell ?_ ?hb _); (case hb => first | exact Nat.le_refl _ | (simp; done) | (simp; omega) | omega)) | ((with_reducible refine Below.alloc ?_ ?hb _); (case hb => first | exact Nat.le_refl _ | (simp; done) | (simp; omega) | omega)) | (with_reducible refine Below.drew ?_))
  have HF := Lib.hid F2
  have HB := Lib.hid (show Box4 (w.alloc (.cells #[.slice aM x.M.length cM, .slice aF x.F.length cF, .slice aV x.V.length cV, .slice aH x.H.length cH] 25)) w.heap.size (.slice aM x.M.length cM) (.slice aF x.F.length cF) (.slice aV x.V.length cV) (.slice aH x.H.length cH) from Box4.new _ _ _ _ _ _ _ rfl)
  have HS := Lib.hid h
  have HW := Lib.hid hf
  have H1 := Lib.hid h1
  have H2 := Lib.hid h2
  clear h2
  clear h1
  obtain ⟨bF, hbF⟩ : ∃ b, hasB x.F p = b := ⟨_, rfl⟩
  have H3 := Lib.hid hbF
  rw [hbF]
  clear hbF
  clear F2 h hf
  go_enter Try.func75, Try.ntmps75
  go_upto_region 1 with fail
  generalize (w.alloc (.cells #[.slice aM x.M.length cM, .slice aF x.F.length cF, .slice aV x.V.length cV, .slice aH x.H.length cH] 25)) = u at *
  obtain ⟨_, c0, c1, c2, c3, _, _, _, _⟩ := HB.out
  go_wp2_with fail
  refine (impl_isPhy p _).mono ?_
  rintro e w' ⟨rfl, rfl⟩
  rw [H1.out]
  go_wp2_with fail
  refine (slices_Contains x.M _ _ p _ (HS.out.fr HF.out).M (by have := HW.out.M; omega)).mono ?_
  rintro e w' ⟨rfl, rfl⟩
  rw [H2.out]
  go_wp2_with fail
  refine (slices_Contains x.F _ _ p _ (HS.out.fr HF.out).F (by have := HW.out.F; omega)).mono ?_
  rintro e w' ⟨rfl, rfl⟩
  rw [H3.out]
  cases bF
  all_goals (go_wp2_with fail; go_ret; exact ⟨rfl, HF.out⟩)
theorem impl_isLoose (x : Nm) (aM aF aV aH : Option Addr) (cM cF cV cH : Nat) (p : Int) (w : World) (h : SrcN w x aM aF aV aH) (hf : Few6 x) :
    Calls Try.prog 75 #[.agg #[.slice aM x.M.length cM, .slice aF x.F.length cF, .slice aV x.V.length cV, .slice aH x.H.length cH], .int .i64 p] w fun e w' => e = .returned (.bool (looseB x p)) ∧ Fr w w' := by
  cases h1 : phyB p
  · rw [show looseB x p = false by simp [looseB, h1]]
    exact impl_isLoose_1 x _ _ _ _ _ _ _ _ p w h hf h1
  · cases h2 : hasB x.M p
    · rw [show looseB x p = (!hasB x.F p) by simp [looseB, h1, h2]]
      exact impl_isLoose_3 x _ _ _ _ _ _ _ _ p w h hf h1 h2
    · rw [show looseB x p = false by simp [looseB, h2]]
      exact impl_isLoose_2 x _ _ _ _ _ _ _ _ p w h hf h1 h2
theorem okN_free {x : Nm} (h : OkN x) {p : Int} (hp : looseB x p = true) : x.F.length < 12 := by
  simp only [looseB, Bool.and_eq_true, Bool.not_eq_true'] at hp
  have h1 : okA ((x.M ++ x.F) ++ [p]) := okA_snoc.2 ⟨h.ap, hp.1, by rw [List.mem_append]; exact fun hm => hm.elim (has_not.1 hp.2.1) (has_not.1 hp.2.2)⟩
  have := okA_len h1
  simp only [List.length_append, List.length_cons, List.length_nil, h.Ml] at this
  omega
set_option maxRecDepth 8000 in
set_option maxHeartbeats 4000000 in
theorem impl_NamFree_1 (x : Nm) (aM aF aV aH : Option Addr) (cM cF cV cH : Nat) (p : Int) (w : World) (h : SrcN w x aM aF aV aH) (hf : Few6 x) (h1 : okN x = false) :
    Calls Try.prog 32 #[.agg #[.slice aM x.M.length cM, .slice aF x.F.length cF, .slice aV x.V.length cV, .slice aH x.H.length cH], .int .i64 p] w (NmP (nm0) w) := by
  have F2 : Fr w ((w.alloc (.cells #[.slice aM x.M.length cM, .slice aF x.F.length cF, .slice aV x.V.length cV, .slice aH x.H.length cH] 25)).alloc (.cells #[.slice none 0 0, .slice none 0 0, .slice none 0 0, .slice none 0 0] 25)) := by (repeat' first | (with_reducible exact Below.refl _ _) | (with_reducible assumption) | ((with_reducible refine Below.setCell ?_ ?hb _); (case hb => first | exact Nat.le_refl _ | (simp; done) | (simp; omega) | omega)) | ((with_reducible refine Below.alloc ?_ ?hb _); (case hb => first | exact Nat.le_refl _ | (simp; done) | (simp; omega) | omega)) | (with_reducible refine Below.drew ?_))
  have HF := Lib.hid F2
  have HB := Lib.hid (show Box4 ((w.alloc (.cells #[.slice aM x.M.length cM, .slice aF x.F.length cF, .slice aV x.V.length cV, .slice aH x.H.length cH] 25)).alloc (.cells #[.slice none 0 0, .slice none 0 0, .slice none 0 0, .slice none 0 0] 25)) w.heap.size (.slice aM x.M.length cM) (.slice aF x.F.length cF) (.slice aV x.V.length cV) (.slice aH x.H.length cH) from (Box4.new _ _ _ _ _ _ _ rfl).fr (Fr.alloc _ _))
  have HZ := Lib.hid (show Box4 ((w.alloc (.cells #[.slice aM x.M.length cM, .slice aF x.F.length cF, .slice aV x.V.length cV, .slice aH x.H.length cH] 25)).alloc (.cells #[.slice none 0 0, .slice none 0 0, .slice none 0 0, .slice none 0 0] 25)) (w.heap.size + 1) (.slice none 0 0) (.slice none 0 0) (.slice none 0 0) (.slice none 0 0) from Box4.new _ _ _ _ _ _ _ (by simp))
  have HS := Lib.hid h
  have HW := Lib.hid hf
  have HO := Lib.hid h1
  clear h1
  clear F2 h hf
  go_enter Try.func32, Try.ntmps32
  go_upto_region 1 with fail
  generalize ((w.alloc (.cells #[.slice aM x.M.length cM, .slice aF x.F.length cF, .slice aV x.V.length cV, .slice aH x.H.length cH] 25)).alloc (.cells #[.slice none 0 0, .slice none 0 0, .slice none 0 0, .slice none 0 0] 25)) = u at *
  obtain ⟨_, c0, c1, c2, c3, _, _, _, _⟩ := HB.out
  go_wp2_with fail
  refine (impl_NamOk x _ _ _ _ _ _ _ _ _ (HS.out.fr HF.out) HW.out).mono ?_
  rintro e u1 ⟨rfl, f⟩
  clear c0 c1 c2 c3
  replace HF := Lib.hid (HF.out.trans f)
  replace HB := Lib.hid (HB.out.fr f)
  replace HZ := Lib.hid (HZ.out.fr f)
  clear f
  rw [HO.out]
  obtain ⟨_, z0, z1, z2, z3, zf0, zf1, zf2, zf3⟩ := HZ.out
  go_wp2_with fail
  refine bodyPost_ret (v := .agg #[.slice none 0 0, .slice none 0 0, .slice none 0 0, .slice none 0 0]) (by simp [results, Try.results32, go_sem, World.cell?_setCell_other, World.cell?_setCell_same, z0, z1, z2, z3]) rfl ⟨none, none, none, none, 0, 0, 0, 0, rfl, VcNm.nil _ _ _ _ _ _, ?_⟩
  exact fr_but HF.out ((But.refl _ _).set4 (w.heap.size + 1) _ _ _ _ (.inl (by simp)) : But [w.heap.size + 1] _ _) (fun k hk => by have := List.mem_singleton.1 hk; omega)
set_option maxRecDepth 8000 in
set_option maxHeartbeats 4000000 in
theorem impl_NamFree_2 (x : Nm) (aM aF aV aH : Option Addr) (cM cF cV cH : Nat) (p : Int) (w : World) (h : SrcN w x aM aF aV aH) (hf : Few6 x) (h1 : okN x = true) (h2 : looseB x p = false) :
    Calls Try.prog 32 #[.agg #[.slice aM x.M.length cM, .slice aF x.F.length cF, .slice aV x.V.length cV, .slice aH x.H.length cH], .int .i64 p] w (NmP (nm0) w) := by
  have F2 : Fr w ((w.alloc (.cells #[.slice aM x.M.length cM, .slice aF x.F.length cF, .slice aV x.V.length cV, .slice aH x.H.length cH] 25)).alloc (.cells #[.slice none 0 0, .slice none 0 0, .slice none 0 0, .slice none 0 0] 25)) := by (repeat' first | (with_reducible exact Below.refl _ _) | (with_reducible assumption) | ((with_reducible refine Below.setCell ?_ ?hb _); (case hb => first | exact Nat.le_refl _ | (simp; done) | (simp; omega) | omega)) | ((with_reducible refine Below.alloc ?_ ?hb _); (case hb => first | exact Nat.le_refl _ | (simp; done) | (simp; omega) | omega)) | (with_reducible refine Below.drew ?_))
  have HF := Lib.hid F2
  have HB := Lib.hid (show Box4 ((w.alloc (.cells #[.slice aM x.M.length cM, .slice aF x.F.length cF, .slice aV x.V.length cV, .slice aH x.H.length cH] 25)).alloc (.cells #[.slice none 0 0, .slice none 0 0, .slice none 0 0, .slice none 0 0] 25)) w.heap.size (.slice aM x.M.length cM) (.slice aF x.F.length cF) (.slice aV x.V.length cV) (.slice aH x.H.length cH) from (Box4.new _ _ _ _ _ _ _ rfl).fr (Fr.alloc _ _))
  have HZ := Lib.hid (show Box4 ((w.alloc (.cells #[.slice aM x.M.length cM, .slice aF x.F.length cF, .slice aV x.V.length cV, .slice aH x.H.length cH] 25)).alloc (.cells #[.slice none 0 0, .slice none 0 0, .slice none 0 0, .slice none 0 0] 25)) (w.heap.size + 1) (.slice none 0 0) (.slice none 0 0) (.slice none 0 0) (.slice none 0 0) from Box4.new _ _ _ _ _ _ _ (by simp))
  have HS := Lib.hid h
  have HW := Lib.hid hf
  have HO := Lib.hid h1
  have HLO := Lib.hid h2
  clear h2
  clear h1
  clear F2 h hf
  go_enter Try.func32, Try.ntmps32
  go_upto_region 1 with fail
  generalize ((w.alloc (.cells #[.slice aM x.M.length cM, .slice aF x.F.length cF, .slice aV x.V.length cV, .slice aH x.H.length cH] 25)).alloc (.cells #[.slice none 0 0, .slice none 0 0, .slice none 0 0, .slice none 0 0] 25)) = u at *
  obtain ⟨_, c0, c1, c2, c3, _, _, _, _⟩ := HB.out
  go_wp2_with fail
  refine (impl_NamOk x _ _ _ _ _ _ _ _ _ (HS.out.fr HF.out) HW.out).mono ?_
  rintro e u1 ⟨rfl, f⟩
  clear c0 c1 c2 c3
  replace HF := Lib.hid (HF.out.trans f)
  replace HB := Lib.hid (HB.out.fr f)
  replace HZ := Lib.hid (HZ.out.fr f)
  clear f
  rw [HO.out]
  obtain ⟨_, c0, c1, c2, c3, _, _, _, _⟩ := HB.out
  go_wp2_with fail
  refine (impl_isLoose x _ _ _ _ _ _ _ _ p _ (HS.out.fr HF.out) HW.out).mono ?_
  rintro e u2 ⟨rfl, f⟩
  clear c0 c1 c2 c3
  replace HF := Lib.hid (HF.out.trans f)
  replace HB := Lib.hid (HB.out.fr f)
  replace HZ := Lib.hid (HZ.out.fr f)
  clear f
  rw [HLO.out]
  obtain ⟨_, z0, z1, z2, z3, zf0, zf1, zf2, zf3⟩ := HZ.out
  go_wp2_with fail
  refine bodyPost_ret (v := .agg #[.slice none 0 0, .slice none 0 0, .slice none 0 0, .slice none 0 0]) (by simp [results, Try.results32, go_sem, World.cell?_setCell_other, World.cell?_setCell_same, z0, z1, z2, z3]) rfl ⟨none, none, none, none, 0, 0, 0, 0, rfl, VcNm.nil _ _ _ _ _ _, ?_⟩
  exact fr_but HF.out ((But.refl _ _).set4 (w.heap.size + 1) _ _ _ _ (.inl (by simp)) : But [w.heap.size + 1] _ _) (fun k hk => by have := List.mem_singleton.1 hk; omega)
set_option maxRecDepth 8000 in
set_option maxHeartbeats 4000000 in
theorem impl_NamFree_3 (x : Nm) (aM aF aV aH : Option Addr) (cM cF cV cH : Nat) (p : Int) (w : World) (h : SrcN w x aM aF aV aH) (hf : Few6 x) (h1 : okN x = true) (h2 : looseB x p = true) :
    Calls Try.prog 32 #[.agg #[.slice aM x.M.length cM, .slice aF x.F.length cF, .slice aV x.V.length cV, .slice aH x.H.length cH], .int .i64 p] w (NmP (freeG x p) w) := by
  have F2 : Fr w ((w.alloc (.cells #[.slice aM x.M.length cM, .slice aF x.F.length cF, .slice aV x.V.length cV, .slice aH x.H.length cH] 25)).alloc (.cells #[.slice none 0 0, .slice none 0 0, .slice none 0 0, .slice none 0 0] 25)) := by (repeat' first | (with_reducible exact Below.refl _ _) | (with_reducible assumption) | ((with_reducible refine Below.setCell ?_ ?hb _); (case hb => first | exact Nat.le_refl _ | (simp; done) | (simp; omega) | omega)) | ((with_reducible refine Below.alloc ?_ ?hb _); (case hb => first | exact Nat.le_refl _ | (simp; done) | (simp; omega) | omega)) | (with_reducible refine Below.drew ?_))
  have HF := Lib.hid F2
  have HB := Lib.hid (show Box4 ((w.alloc (.cells #[.slice aM x.M.length cM, .slice aF x.F.length cF, .slice aV x.V.length cV, .slice aH x.H.length cH] 25)).alloc (.cells #[.slice none 0 0, .slice none 0 0, .slice none 0 0, .slice none 0 0] 25)) w.heap.size (.slice aM x.M.length cM) (.slice aF x.F.length cF) (.slice aV x.V.length cV) (.slice aH x.H.length cH) from (Box4.new _ _ _ _ _ _ _ rfl).fr (Fr.alloc _ _))
  have HZ := Lib.hid (show Box4 ((w.alloc (.cells #[.slice aM x.M.length cM, .slice aF x.F.length cF, .slice aV x.V.length cV, .slice aH x.H.length cH] 25)).alloc (.cells #[.slice none 0 0, .slice none 0 0, .slice none 0 0, .slice none 0 0] 25)) (w.heap.size + 1) (.slice none 0 0) (.slice none 0 0) (.slice none 0 0) (.slice none 0 0) from Box4.new _ _ _ _ _ _ _ (by simp))
  have HS := Lib.hid h
  have HW := Lib.hid hf
  have HO := Lib.hid h1
  have HLO := Lib.hid h2
  clear h2
  have HK := Lib.hid (okN_ok h1)
  have HM := Lib.hid (okN_free (okN_ok h1) HLO.out)
  clear h1
  clear F2 h hf
  go_enter Try.func32, Try.ntmps32
  go_upto_region 1 with fail
  generalize ((w.alloc (.cells #[.slice aM x.M.length cM, .slice aF x.F.length cF, .slice aV x.V.length cV, .slice aH x.H.length cH] 25)).alloc (.cells #[.slice none 0 0, .slice none 0 0, .slice none 0 0, .slice none 0 0] 25)) = u at *
  obtain ⟨_, c0, c1, c2, c3, _, _, _, _⟩ := HB.out
  go_wp2_with fail
  refine (impl_NamOk x _ _ _ _ _ _ _ _ _ (HS.out.fr HF.out) HW.out).mono ?_
  rintro e u1 ⟨rfl, f⟩
  clear c0 c1 c2 c3
  replace HF := Lib.hid (HF.out.trans f)
  replace HB := Lib.hid (HB.out.fr f)
  replace HZ := Lib.hid (HZ.out.fr f)
  clear f
  rw [HO.out]
  obtain ⟨_, c0, c1, c2, c3, _, _, _, _⟩ := HB.out
  go_wp2_with fail
  refine (impl_isLoose x _ _ _ _ _ _ _ _ p _ (HS.out.fr HF.out) HW.out).mono ?_
  rintro e u2 ⟨rfl, f⟩
  clear c0 c1 c2 c3
  replace HF := Lib.hid (HF.out.trans f)
  replace HB := Lib.hid (HB.out.fr f)
  replace HZ := Lib.hid (HZ.out.fr f)
  clear f
  rw [HLO.out]
  obtain ⟨_, c0, c1, c2, c3, _, _, _, _⟩ := HB.out
  go_wp2_with fail
  refine (impl_namesOf x.M x.F x.V x.H _ _ _ _ _ _ _ _ _ (HS.out.fr HF.out) HK.out.Ml HK.out.Fl HK.out.Vl HK.out.Hl).mono ?_
  rintro e un ⟨g, rfl, hg, nb, f⟩
  clear c0 c1 c2 c3
  have hge : w.heap.size + 1 < g := Nat.lt_of_lt_of_le HZ.out.lt hg
  have HN := Lib.hid nb
  replace HF := Lib.hid (HF.out.trans f)
  replace HZ := Lib.hid (HZ.out.fr f)
  clear HB nb f hg
  go_wp2_with fail
  refine (impl_ring_put x.M (ringP x.F) 0 x.F.length x.V x.H g p _ HN.out HM.out).mono ?_
  rintro e ut ⟨rfl, nb, b⟩
  replace HN := Lib.hid nb
  replace HF := Lib.hid (fr_new HF.out b (by omega))
  replace HZ := Lib.hid (HZ.out.but b (by simp; omega))
  clear nb b
  have hR : ringL ((ringP x.F).set ((0 + x.F.length) % 12) p) 0 (x.F.length + 1) = x.F ++ [p] := by rw [ringL_put _ _ _ _ (ringP_len _ HK.out.Fl) (by omega) HM.out, ringL_P _ HK.out.Fl]
  have HC := Lib.hid (impl_state _ _ _ _ _ _ _ _ HN.out)
  rw [hR] at HC
  clear hR
  go_wp2_with fail
  refine (HC.out).mono ?_
  rintro e v ⟨rM, rF, rV, rH, qM, qF, qV, qH, rfl, rv, f⟩
  have HV := Lib.hid rv
  have hzl := HZ.out.lt
  have HBk := Lib.hid rv.blk
  replace HF := Lib.hid (HF.out.trans f)
  obtain ⟨_, z0, z1, z2, z3, zf0, zf1, zf2, zf3⟩ := HZ.out.fr f
  have hst : ∀ a b c d, But [w.heap.size + 1] v ((((v.setCell ⟨w.heap.size + 1, 0, none⟩ a).setCell ⟨w.heap.size + 1, 1, none⟩ b).setCell ⟨w.heap.size + 1, 2, none⟩ c).setCell ⟨w.heap.size + 1, 3, none⟩ d) := fun a b c d => (But.refl _ _).set4 (w.heap.size + 1) a b c d (.inl (by simp))
  have HST := Lib.hid hst
  clear rv f hst
  go_wp2_with fail
  refine bodyPost_ret (v := .agg #[.slice rM (freeG x p).M.length qM, .slice rF (freeG x p).F.length qF, .slice rV (freeG x p).V.length qV, .slice rH (freeG x p).H.length qH]) (by simp [results, Try.results32, go_sem, World.cell?_setCell_other, World.cell?_setCell_same, z0, z1, z2, z3, freeG, putG, backG, takeG]) rfl ?_
  exact ⟨rM, rF, rV, rH, qM, qF, qV, qH, rfl, (HV.out.mono (by have := HF.out.size; omega)).but (HST.out _ _ _ _) (fun k hk hm => by have := HBk.out k hk; have := List.mem_singleton.1 hm; omega), fr_but HF.out (HST.out _ _ _ _) (fun k hk => by have := List.mem_singleton.1 hk; omega)⟩
theorem impl_NamFree (x : Nm) (aM aF aV aH : Option Addr) (cM cF cV cH : Nat) (p : Int) (w : World) (h : SrcN w x aM aF aV aH) (hf : Few6 x) :
    Calls Try.prog 32 #[.agg #[.slice aM x.M.length cM, .slice aF x.F.length cF, .slice aV x.V.length cV, .slice aH x.H.length cH], .int .i64 p] w (NmP (freeA x p) w) := by
  unfold freeA
  cases h1 : okN x
  · exact impl_NamFree_1 x _ _ _ _ _ _ _ _ p w h hf h1
  · cases h2 : looseB x p
    · exact impl_NamFree_2 x _ _ _ _ _ _ _ _ p w h hf h1 h2
    · exact impl_NamFree_3 x _ _ _ _ _ _ _ _ p w h hf h1 h2
set_option maxRecDepth 8000 in
set_option maxHeartbeats 4000000 in
theorem impl_NamPut_1 (x : Nm) (aM aF aV aH : Option Addr) (cM cF cV cH : Nat) (p n : Int) (w : World) (h : SrcN w x aM aF aV aH) (hf : Few6 x) (h1 : okN x = false) :
    Calls Try.prog 30 #[.agg #[.slice aM x.M.length cM, .slice aF x.F.length cF, .slice aV x.V.length cV, .slice aH x.H.length cH], .int .i64 p, .int .i64 n] w (NmP nm0 w) := by
  have F2 : Fr w ((w.alloc (.cells #[.slice aM x.M.length cM, .slice aF x.F.length cF, .slice aV x.V.length cV, .slice aH x.H.length cH] 25)).alloc (.cells #[.slice none 0 0, .slice none 0 0, .slice none 0 0, .slice none 0 0] 25)) := by (repeat' first | (with_reducible exact Below.refl _ _) | (with_reducible assumption) | ((with_reducible refine Below.setCell ?_ ?hb _); (case hb => first | exact Nat.le_refl _ | (simp; done) | (simp; omega) | omega)) | ((with_reducible refine Below.alloc ?_ ?hb _); (case hb => first | exact Nat.le_refl _ | (simp; done) | (simp; omega) | omega)) | (with_reducible refine Below.drew ?_))
  have HF := Lib.hid F2
  have HB := Lib.hid (show Box4 ((w.alloc (.cells #[.slice aM x.M.length cM, .slice aF x.F.length cF, .slice aV x.V.length cV, .slice aH x.H.length cH] 25)).alloc (.cells #[.slice none 0 0, .slice none 0 0, .slice none 0 0, .slice none 0 0] 25)) w.heap.size (.slice aM x.M.length cM) (.slice aF x.F.length cF) (.slice aV x.V.length cV) (.slice aH x.H.length cH) from (Box4.new _ _ _ _ _ _ _ rfl).fr (Fr.alloc _ _))
  have HZ := Lib.hid (show Box4 ((w.alloc (.cells #[.slice aM x.M.length cM, .slice aF x.F.length cF, .slice aV x.V.length cV, .slice aH x.H.length cH] 25)).alloc (.cells #[.slice none 0 0, .slice none 0 0, .slice none 0 0, .slice none 0 0] 25)) (w.heap.size + 1) (.slice none 0 0) (.slice none 0 0) (.slice none 0 0) (.slice none 0 0) from Box4.new _ _ _ _ _ _ _ (by simp))
  have HS := Lib.hid h
  have HW := Lib.hid hf
  have HO := Lib.hid h1
  clear h1
  clear F2 h hf
  go_enter Try.func30, Try.ntmps30
  go_upto_region 1 with fail
  generalize ((w.alloc (.cells #[.slice aM x.M.length cM, .slice aF x.F.length cF, .slice aV x.V.length cV, .slice aH x.H.length cH] 25)).alloc (.cells #[.slice none 0 0, .slice none 0 0, .slice none 0 0, .slice none 0 0] 25)) = u at *
  obtain ⟨_, c0, c1, c2, c3, _, _, _, _⟩ := HB.out
  go_wp2_with fail
  refine (impl_NamOk x _ _ _ _ _ _ _ _ _ (HS.out.fr HF.out) HW.out).mono ?_
  rintro e u1 ⟨rfl, f⟩
  clear c0 c1 c2 c3
  replace HF := Lib.hid (HF.out.trans f)
  replace HB := Lib.hid (HB.out.fr f)
  replace HZ := Lib.hid (HZ.out.fr f)
  clear f
  rw [HO.out]
  obtain ⟨_, z0, z1, z2, z3, zf0, zf1, zf2, zf3⟩ := HZ.out
  go_wp2_with fail
  refine bodyPost_ret (v := .agg #[.slice none 0 0, .slice none 0 0, .slice none 0 0, .slice none 0 0]) (by simp [results, Try.results30, go_sem, World.cell?_setCell_other, World.cell?_setCell_same, z0, z1, z2, z3]) rfl ⟨none, none, none, none, 0, 0, 0, 0, rfl, VcNm.nil _ _ _ _ _ _, ?_⟩
  exact fr_but HF.out ((But.refl _ _).set4 (w.heap.size + 1) _ _ _ _ (.inl (by simp)) : But [w.heap.size + 1] _ _) (fun k hk => by have := List.mem_singleton.1 hk; omega)
set_option maxRecDepth 8000 in
set_option maxHeartbeats 4000000 in
theorem impl_NamPut_2 (x : Nm) (aM aF aV aH : Option Addr) (cM cF cV cH : Nat) (p n : Int) (w : World) (h : SrcN w x aM aF aV aH) (hf : Few6 x) (h1 : okN x = true) (h2 : phyB p = false) :
    Calls Try.prog 30 #[.agg #[.slice aM x.M.length cM, .slice aF x.F.length cF, .slice aV x.V.length cV, .slice aH x.H.length cH], .int .i64 p, .int .i64 n] w (NmP nm0 w) := by
  have F2 : Fr w ((w.alloc (.cells #[.slice aM x.M.length cM, .slice aF x.F.length cF, .slice aV x.V.length cV, .slice aH x.H.length cH] 25)).alloc (.cells #[.slice none 0 0, .slice none 0 0, .slice none 0 0, .slice none 0 0] 25)) := by (repeat' first | (with_reducible exact Below.refl _ _) | (with_reducible assumption) | ((with_reducible refine Below.setCell ?_ ?hb _); (case hb => first | exact Nat.le_refl _ | (simp; done) | (simp; omega) | omega)) | ((with_reducible refine Below.alloc ?_ ?hb _); (case hb => first | exact Nat.le_refl _ | (simp; done) | (simp; omega) | omega)) | (with_reducible refine Below.drew ?_))
  have HF := Lib.hid F2
  have HB := Lib.hid (show Box4 ((w.alloc (.cells #[.slice aM x.M.length cM, .slice aF x.F.length cF, .slice aV x.V.length cV, .slice aH x.H.length cH] 25)).alloc (.cells #[.slice none 0 0, .slice none 0 0, .slice none 0 0, .slice none 0 0] 25)) w.heap.size (.slice aM x.M.length cM) (.slice aF x.F.length cF) (.slice aV x.V.length cV) (.slice aH x.H.length cH) from (Box4.new _ _ _ _ _ _ _ rfl).fr (Fr.alloc _ _))
  have HZ := Lib.hid (show Box4 ((w.alloc (.cells #[.slice aM x.M.length cM, .slice aF x.F.length cF, .slice aV x.V.length cV, .slice aH x.H.length cH] 25)).alloc (.cells #[.slice none 0 0, .slice none 0 0, .slice none 0 0, .slice none 0 0] 25)) (w.heap.size + 1) (.slice none 0 0) (.slice none 0 0) (.slice none 0 0) (.slice none 0 0) from Box4.new _ _ _ _ _ _ _ (by simp))
  have HS := Lib.hid h
  have HW := Lib.hid hf
  have HO := Lib.hid h1
  have H2 := Lib.hid h2
  clear h1 h2
  clear F2 h hf
  go_enter Try.func30, Try.ntmps30
  go_upto_region 1 with fail
  generalize ((w.alloc (.cells #[.slice aM x.M.length cM, .slice aF x.F.length cF, .slice aV x.V.length cV, .slice aH x.H.length cH] 25)).alloc (.cells #[.slice none 0 0, .slice none 0 0, .slice none 0 0, .slice none 0 0] 25)) = u at *
  obtain ⟨_, c0, c1, c2, c3, _, _, _, _⟩ := HB.out
  go_wp2_with fail
  refine (impl_NamOk x _ _ _ _ _ _ _ _ _ (HS.out.fr HF.out) HW.out).mono ?_
  rintro e u1 ⟨rfl, f⟩
  clear c0 c1 c2 c3
  replace HF := Lib.hid (HF.out.trans f)
  replace HB := Lib.hid (HB.out.fr f)
  replace HZ := Lib.hid (HZ.out.fr f)
  clear f
  rw [HO.out]
  go_wp2_with fail
  refine (impl_isPhy p _).mono ?_
  rintro e w' ⟨rfl, rfl⟩
  rw [H2.out]
  obtain ⟨_, z0, z1, z2, z3, zf0, zf1, zf2, zf3⟩ := HZ.out
  go_wp2_with fail
  refine bodyPost_ret (v := .agg #[.slice none 0 0, .slice none 0 0, .slice none 0 0, .slice none 0 0]) (by simp [results, Try.results30, go_sem, World.cell?_setCell_other, World.cell?_setCell_same, z0, z1, z2, z3]) rfl ⟨none, none, none, none, 0, 0, 0, 0, rfl, VcNm.nil _ _ _ _ _ _, ?_⟩
  exact fr_but HF.out ((But.refl _ _).set4 (w.heap.size + 1) _ _ _ _ (.inl (by simp)) : But [w.heap.size + 1] _ _) (fun k hk => by have := List.mem_singleton.1 hk; omega)
set_option maxRecDepth 8000 in
set_option maxHeartbeats 4000000 in
theorem impl_NamPut_3 (x : Nm) (aM aF aV aH : Option Addr) (cM cF cV cH : Nat) (p n : Int) (w : World) (h : SrcN w x aM aF aV aH) (hf : Few6 x) (h1 : okN x = true) (h2 : phyB p = true) (h3 : (p == 0) = true) :
    Calls Try.prog 30 #[.agg #[.slice aM x.M.length cM, .slice aF x.F.length cF, .slice aV x.V.length cV, .slice aH x.H.length cH], .int .i64 p, .int .i64 n] w (NmP nm0 w) := by
  have F2 : Fr w ((w.alloc (.cells #[.slice aM x.M.length cM, .slice aF x.F.length cF, .slice aV x.V.length cV, .slice aH x.H.length cH] 25)).alloc (.cells #[.slice none 0 0, .slice none 0 0, .slice none 0 0, .slice none 0 0] 25)) := by (repeat' first | (with_reducible exact Below.refl _ _) | (with_reducible assumption) | ((with_reducible refine Below.setCell ?_ ?hb _); (case hb => first | exact Nat.le_refl _ | (simp; done) | (simp; omega) | omega)) | ((with_reducible refine Below.alloc ?_ ?hb _); (case hb => first | exact Nat.le_refl _ | (simp; done) | (simp; omega) | omega)) | (with_reducible refine Below.drew ?_))
  have HF := Lib.hid F2
  have HB := Lib.hid (show Box4 ((w.alloc (.cells #[.slice aM x.M.length cM, .slice aF x.F.length cF, .slice aV x.V.length cV, .slice aH x.H.length cH] 25)).alloc (.cells #[.slice none 0 0, .slice none 0 0, .slice none 0 0, .slice none 0 0] 25)) w.heap.size (.slice aM x.M.length cM) (.slice aF x.F.length cF) (.slice aV x.V.length cV) (.slice aH x.H.length cH) from (Box4.new _ _ _ _ _ _ _ rfl).fr (Fr.alloc _ _))
  have HZ := Lib.hid (show Box4 ((w.alloc (.cells #[.slice aM x.M.length cM, .slice aF x.F.length cF, .slice aV x.V.length cV, .slice aH x.H.length cH] 25)).alloc (.cells #[.slice none 0 0, .slice none 0 0, .slice none 0 0, .slice none 0 0] 25)) (w.heap.size + 1) (.slice none 0 0) (.slice none 0 0) (.slice none 0 0) (.slice none 0 0) from Box4.new _ _ _ _ _ _ _ (by simp))
  have HS := Lib.hid h
  have HW := Lib.hid hf
  have HO := Lib.hid h1
  have H2 := Lib.hid h2
  clear h1 h2
  clear F2 h hf
  go_enter Try.func30, Try.ntmps30
  go_upto_region 1 with fail
  generalize ((w.alloc (.cells #[.slice aM x.M.length cM, .slice aF x.F.length cF, .slice aV x.V.length cV, .slice aH x.H.length cH] 25)).alloc (.cells #[.slice none 0 0, .slice none 0 0, .slice none 0 0, .slice none 0 0] 25)) = u at *
  obtain ⟨_, c0, c1, c2, c3, _, _, _, _⟩ := HB.out
  go_wp2_with fail
  refine (impl_NamOk x _ _ _ _ _ _ _ _ _ (HS.out.fr HF.out) HW.out).mono ?_
  rintro e u1 ⟨rfl, f⟩
  clear c0 c1 c2 c3
  replace HF := Lib.hid (HF.out.trans f)
  replace HB := Lib.hid (HB.out.fr f)
  replace HZ := Lib.hid (HZ.out.fr f)
  clear f
  rw [HO.out]
  go_wp2_with fail
  refine (impl_isPhy p _).mono ?_
  rintro e w' ⟨rfl, rfl⟩
  rw [H2.out]
  obtain ⟨_, z0, z1, z2, z3, zf0, zf1, zf2, zf3⟩ := HZ.out
  go_wp2_with fail
  refine bodyPost_ret (v := .agg #[.slice none 0 0, .slice none 0 0, .slice none 0 0, .slice none 0 0]) (by simp [results, Try.results30, go_sem, World.cell?_setCell_other, World.cell?_setCell_same, z0, z1, z2, z3]) rfl ⟨none, none, none, none, 0, 0, 0, 0, rfl, VcNm.nil _ _ _ _ _ _, ?_⟩
  exact fr_but HF.out ((But.refl _ _).set4 (w.heap.size + 1) _ _ _ _ (.inl (by simp)) : But [w.heap.size + 1] _ _) (fun k hk => by have := List.mem_singleton.1 hk; omega)
set_option maxRecDepth 8000 in
set_option maxHeartbeats 4000000 in
theorem impl_NamPut_4 (x : Nm) (aM aF aV aH : Option Addr) (cM cF cV cH : Nat) (p n : Int) (w : World) (h : SrcN w x aM aF aV aH) (hf : Few6 x) (h1 : okN x = true) (h2 : phyB p = true) (h3 : (p == 0) = false) (h4 : okB n = false) :
    Calls Try.prog 30 #[.agg #[.slice aM x.M.length cM, .slice aF x.F.length cF, .slice aV x.V.length cV, .slice aH x.H.length cH], .int .i64 p, .int .i64 n] w (NmP nm0 w) := by
  have F2 : Fr w ((w.alloc (.cells #[.slice aM x.M.length cM, .slice aF x.F.length cF, .slice aV x.V.length cV, .slice aH x.H.length cH] 25)).alloc (.cells #[.slice none 0 0, .slice none 0 0, .slice none 0 0, .slice none 0 0] 25)) := by (repeat' first | (with_reducible exact Below.refl _ _) | (with_reducible assumption) | ((with_reducible refine Below.setCell ?_ ?hb _); (case hb => first | exact Nat.le_refl _ | (simp; done) | (simp; omega) | omega)) | ((with_reducible refine Below.alloc ?_ ?hb _); (case hb => first | exact Nat.le_refl _ | (simp; done) | (simp; omega) | omega)) | (with_reducible refine Below.drew ?_))
  have HF := Lib.hid F2
  have HB := Lib.hid (show Box4 ((w.alloc (.cells #[.slice aM x.M.length cM, .slice aF x.F.length cF, .slice aV x.V.length cV, .slice aH x.H.length cH] 25)).alloc (.cells #[.slice none 0 0, .slice none 0 0, .slice none 0 0, .slice none 0 0] 25)) w.heap.size (.slice aM x.M.length cM) (.slice aF x.F.length cF) (.slice aV x.V.length cV) (.slice aH x.H.length cH) from (Box4.new _ _ _ _ _ _ _ rfl).fr (Fr.alloc _ _))
  have HZ := Lib.hid (show Box4 ((w.alloc (.cells #[.slice aM x.M.length cM, .slice aF x.F.length cF, .slice aV x.V.length cV, .slice aH x.H.length cH] 25)).alloc (.cells #[.slice none 0 0, .slice none 0 0, .slice none 0 0, .slice none 0 0] 25)) (w.heap.size + 1) (.slice none 0 0) (.slice none 0 0) (.slice none 0 0) (.slice none 0 0) from Box4.new _ _ _ _ _ _ _ (by simp))
  have HS := Lib.hid h
  have HW := Lib.hid hf
  have HO := Lib.hid h1
  have H2 := Lib.hid h2
  have H4 := Lib.hid h4
  clear h1 h2 h4
  clear F2 h hf
  go_enter Try.func30, Try.ntmps30
  go_upto_region 1 with fail
  generalize ((w.alloc (.cells #[.slice aM x.M.length cM, .slice aF x.F.length cF, .slice aV x.V.length cV, .slice aH x.H.length cH] 25)).alloc (.cells #[.slice none 0 0, .slice none 0 0, .slice none 0 0, .slice none 0 0] 25)) = u at *
  obtain ⟨_, c0, c1, c2, c3, _, _, _, _⟩ := HB.out
  go_wp2_with fail
  refine (impl_NamOk x _ _ _ _ _ _ _ _ _ (HS.out.fr HF.out) HW.out).mono ?_
  rintro e u1 ⟨rfl, f⟩
  clear c0 c1 c2 c3
  replace HF := Lib.hid (HF.out.trans f)
  replace HB := Lib.hid (HB.out.fr f)
  replace HZ := Lib.hid (HZ.out.fr f)
  clear f
  rw [HO.out]
  go_wp2_with fail
  refine (impl_isPhy p _).mono ?_
  rintro e w' ⟨rfl, rfl⟩
  rw [H2.out]
  go_wp2_with fail
  refine (impl_WrdOk n _).mono ?_
  rintro e w' ⟨rfl, rfl⟩
  rw [H4.out]
  obtain ⟨_, z0, z1, z2, z3, zf0, zf1, zf2, zf3⟩ := HZ.out
  go_wp2_with fail
  refine bodyPost_ret (v := .agg #[.slice none 0 0, .slice none 0 0, .slice none 0 0, .slice none 0 0]) (by simp [results, Try.results30, go_sem, World.cell?_setCell_other, World.cell?_setCell_same, z0, z1, z2, z3]) rfl ⟨none, none, none, none, 0, 0, 0, 0, rfl, VcNm.nil _ _ _ _ _ _, ?_⟩
  exact fr_but HF.out ((But.refl _ _).set4 (w.heap.size + 1) _ _ _ _ (.inl (by simp)) : But [w.heap.size + 1] _ _) (fun k hk => by have := List.mem_singleton.1 hk; omega)
set_option maxRecDepth 8000 in
set_option maxHeartbeats 4000000 in
theorem impl_NamPut_5 (x : Nm) (aM aF aV aH : Option Addr) (cM cF cV cH : Nat) (p n : Int) (w : World) (h : SrcN w x aM aF aV aH) (hf : Few6 x) (h1 : okN x = true) (h2 : phyB p = true) (h3 : (p == 0) = false) (h4 : okB n = true) :
    Calls Try.prog 30 #[.agg #[.slice aM x.M.length cM, .slice aF x.F.length cF, .slice aV x.V.length cV, .slice aH x.H.length cH], .int .i64 p, .int .i64 n] w (NmP (putG x p n) w) := by
  have F2 : Fr w ((w.alloc (.cells #[.slice aM x.M.length cM, .slice aF x.F.length cF, .slice aV x.V.length cV, .slice aH x.H.length cH] 25)).alloc (.cells #[.slice none 0 0, .slice none 0 0, .slice none 0 0, .slice none 0 0] 25)) := by (repeat' first | (with_reducible exact Below.refl _ _) | (with_reducible assumption) | ((with_reducible refine Below.setCell ?_ ?hb _); (case hb => first | exact Nat.le_refl _ | (simp; done) | (simp; omega) | omega)) | ((with_reducible refine Below.alloc ?_ ?hb _); (case hb => first | exact Nat.le_refl _ | (simp; done) | (simp; omega) | omega)) | (with_reducible refine Below.drew ?_))
  have HF := Lib.hid F2
  have HB := Lib.hid (show Box4 ((w.alloc (.cells #[.slice aM x.M.length cM, .slice aF x.F.length cF, .slice aV x.V.length cV, .slice aH x.H.length cH] 25)).alloc (.cells #[.slice none 0 0, .slice none 0 0, .slice none 0 0, .slice none 0 0] 25)) w.heap.size (.slice aM x.M.length cM) (.slice aF x.F.length cF) (.slice aV x.V.length cV) (.slice aH x.H.length cH) from (Box4.new _ _ _ _ _ _ _ rfl).fr (Fr.alloc _ _))
  have HZ := Lib.hid (show Box4 ((w.alloc (.cells #[.slice aM x.M.length cM, .slice aF x.F.length cF, .slice aV x.V.length cV, .slice aH x.H.length cH] 25)).alloc (.cells #[.slice none 0 0, .slice none 0 0, .slice none 0 0, .slice none 0 0] 25)) (w.heap.size + 1) (.slice none 0 0) (.slice none 0 0) (.slice none 0 0) (.slice none 0 0) from Box4.new _ _ _ _ _ _ _ (by simp))
  have HS := Lib.hid h
  have HW := Lib.hid hf
  have HO := Lib.hid h1
  have H2 := Lib.hid h2
  have H4 := Lib.hid h4
  have HK := Lib.hid (okN_ok h1)
  have HPb := Lib.hid (phyB_true h2)
  clear h1 h2 h4
  clear F2 h hf
  go_enter Try.func30, Try.ntmps30
  go_upto_region 1 with fail
  generalize ((w.alloc (.cells #[.slice aM x.M.length cM, .slice aF x.F.length cF, .slice aV x.V.length cV, .slice aH x.H.length cH] 25)).alloc (.cells #[.slice none 0 0, .slice none 0 0, .slice none 0 0, .slice none 0 0] 25)) = u at *
  obtain ⟨_, c0, c1, c2, c3, _, _, _, _⟩ := HB.out
  go_wp2_with fail
  refine (impl_NamOk x _ _ _ _ _ _ _ _ _ (HS.out.fr HF.out) HW.out).mono ?_
  rintro e u1 ⟨rfl, f⟩
  clear c0 c1 c2 c3
  replace HF := Lib.hid (HF.out.trans f)
  replace HB := Lib.hid (HB.out.fr f)
  replace HZ := Lib.hid (HZ.out.fr f)
  clear f
  rw [HO.out]
  go_wp2_with fail
  refine (impl_isPhy p _).mono ?_
  rintro e w' ⟨rfl, rfl⟩
  rw [H2.out]
  go_wp2_with fail
  refine (impl_WrdOk n _).mono ?_
  rintro e w' ⟨rfl, rfl⟩
  rw [H4.out]
  clear h3
  obtain ⟨_, c0, c1, c2, c3, _, _, _, _⟩ := HB.out
  go_wp2_with fail
  refine (impl_namesOf x.M x.F x.V x.H _ _ _ _ _ _ _ _ _ (HS.out.fr HF.out) HK.out.Ml HK.out.Fl HK.out.Vl HK.out.Hl).mono ?_
  rintro e un ⟨g, rfl, hg, nb, f⟩
  clear c0 c1 c2 c3
  have hge : w.heap.size + 1 < g := Nat.lt_of_lt_of_le HZ.out.lt hg
  have HN := Lib.hid nb
  replace HF := Lib.hid (HF.out.trans f)
  replace HZ := Lib.hid (HZ.out.fr f)
  clear HB nb f hg
  obtain ⟨q, rfl⟩ : ∃ q : Nat, p = q := ⟨p.toNat, by have := HPb.out; omega⟩
  have hq : q < 20 := by have := HPb.out; omega
  go_wp2_with fail
  refine (impl_nput x.M (ringP x.F) 0 x.F.length x.V x.H g q n _ HN.out hq).mono ?_
  rintro e ut ⟨rfl, nb, b⟩
  replace HN := Lib.hid nb
  replace HF := Lib.hid (fr_new HF.out b (by omega))
  replace HZ := Lib.hid (HZ.out.but b (by simp; omega))
  clear nb b
  have HC := Lib.hid (impl_state _ _ _ _ _ _ _ _ HN.out)
  rw [ringL_P _ HK.out.Fl] at HC
  go_wp2_with fail
  refine (HC.out).mono ?_
  rintro e v ⟨rM, rF, rV, rH, qM, qF, qV, qH, rfl, rv, f⟩
  have HV := Lib.hid rv
  have hzl := HZ.out.lt
  have HBk := Lib.hid rv.blk
  replace HF := Lib.hid (HF.out.trans f)
  obtain ⟨_, z0, z1, z2, z3, zf0, zf1, zf2, zf3⟩ := HZ.out.fr f
  have hst : ∀ a b c d, But [w.heap.size + 1] v ((((v.setCell ⟨w.heap.size + 1, 0, none⟩ a).setCell ⟨w.heap.size + 1, 1, none⟩ b).setCell ⟨w.heap.size + 1, 2, none⟩ c).setCell ⟨w.heap.size + 1, 3, none⟩ d) := fun a b c d => (But.refl _ _).set4 (w.heap.size + 1) a b c d (.inl (by simp))
  have HST := Lib.hid hst
  clear rv f hst
  go_wp2_with fail
  refine bodyPost_ret (v := .agg #[.slice rM (putG x q n).M.length qM, .slice rF (putG x q n).F.length qF, .slice rV (putG x q n).V.length qV, .slice rH (putG x q n).H.length qH]) (by simp [results, Try.results30, go_sem, World.cell?_setCell_other, World.cell?_setCell_same, z0, z1, z2, z3, freeG, putG, backG, takeG]) rfl ?_
  exact ⟨rM, rF, rV, rH, qM, qF, qV, qH, rfl, (HV.out.mono (by have := HF.out.size; omega)).but (HST.out _ _ _ _) (fun k hk hm => by have := HBk.out k hk; have := List.mem_singleton.1 hm; omega), fr_but HF.out (HST.out _ _ _ _) (fun k hk => by have := List.mem_singleton.1 hk; omega)⟩
theorem impl_NamPut (x : Nm) (aM aF aV aH : Option Addr) (cM cF cV cH : Nat) (p n : Int) (w : World) (h : SrcN w x aM aF aV aH) (hf : Few6 x) :
    Calls Try.prog 30 #[.agg #[.slice aM x.M.length cM, .slice aF x.F.length cF, .slice aV x.V.length cV, .slice aH x.H.length cH], .int .i64 p, .int .i64 n] w (NmP (putA x p n) w) := by
  cases h1 : okN x
  · rw [show putA x p n = nm0 by simp [putA, h1]]
    exact impl_NamPut_1 x _ _ _ _ _ _ _ _ p n w h hf h1
  · cases h2 : phyB p
    · rw [show putA x p n = nm0 by simp [putA, h2]]
      exact impl_NamPut_2 x _ _ _ _ _ _ _ _ p n w h hf h1 h2
    · by_cases h3 : p = 0
      · rw [show putA x p n = nm0 by simp [putA, h3]]
        exact impl_NamPut_3 x _ _ _ _ _ _ _ _ p n w h hf h1 h2 (by simpa using h3)
      · cases h4 : okB n
        · rw [show putA x p n = nm0 by simp [putA, h4]]
          exact impl_NamPut_4 x _ _ _ _ _ _ _ _ p n w h hf h1 h2 (by simpa using h3) h4
        · rw [show putA x p n = putG x p n by simp [putA, h1, h2, h3, h4]]
          exact impl_NamPut_5 x _ _ _ _ _ _ _ _ p n w h hf h1 h2 (by simpa using h3) h4
theorem reg6_bd {d : Int} (h : (decide (0 ≤ d) && decide (d < 8)) = true) : 0 ≤ d ∧ d < 8 := by simpa using h
set_option maxRecDepth 8000 in
set_option maxHeartbeats 4000000 in
theorem impl_NamBack_1 (x : Nm) (aM aF aV aH : Option Addr) (cM cF cV cH : Nat) (d now old : Int) (w : World) (h : SrcN w x aM aF aV aH) (hf : Few6 x) (h1 : okN x = false) :
    Calls Try.prog 34 #[.agg #[.slice aM x.M.length cM, .slice aF x.F.length cF, .slice aV x.V.length cV, .slice aH x.H.length cH], .int .i64 d, .int .i64 now, .int .i64 old] w (NmP nm0 w) := by
  have F2 : Fr w ((w.alloc (.cells #[.slice aM x.M.length cM, .slice aF x.F.length cF, .slice aV x.V.length cV, .slice aH x.H.length cH] 25)).alloc (.cells #[.slice none 0 0, .slice none 0 0, .slice none 0 0, .slice none 0 0] 25)) := by (repeat' first | (with_reducible exact Below.refl _ _) | (with_reducible assumption) | ((with_reducible refine Below.setCell ?_ ?hb _); (case hb => first | exact Nat.le_refl _ | (simp; done) | (simp; omega) | omega)) | ((with_reducible refine Below.alloc ?_ ?hb _); (case hb => first | exact Nat.le_refl _ | (simp; done) | (simp; omega) | omega)) | (with_reducible refine Below.drew ?_))
  have HF := Lib.hid F2
  have HB := Lib.hid (show Box4 ((w.alloc (.cells #[.slice aM x.M.length cM, .slice aF x.F.length cF, .slice aV x.V.length cV, .slice aH x.H.length cH] 25)).alloc (.cells #[.slice none 0 0, .slice none 0 0, .slice none 0 0, .slice none 0 0] 25)) w.heap.size (.slice aM x.M.length cM) (.slice aF x.F.length cF) (.slice aV x.V.length cV) (.slice aH x.H.length cH) from (Box4.new _ _ _ _ _ _ _ rfl).fr (Fr.alloc _ _))
  have HZ := Lib.hid (show Box4 ((w.alloc (.cells #[.slice aM x.M.length cM, .slice aF x.F.length cF, .slice aV x.V.length cV, .slice aH x.H.length cH] 25)).alloc (.cells #[.slice none 0 0, .slice none 0 0, .slice none 0 0, .slice none 0 0] 25)) (w.heap.size + 1) (.slice none 0 0) (.slice none 0 0) (.slice none 0 0) (.slice none 0 0) from Box4.new _ _ _ _ _ _ _ (by simp))
  have HS := Lib.hid h
  have HW := Lib.hid hf
  have HO := Lib.hid h1
  clear h1
  clear F2 h hf
  go_enter Try.func34, Try.ntmps34
  go_upto_region 1 with fail
  generalize ((w.alloc (.cells #[.slice aM x.M.length cM, .slice aF x.F.length cF, .slice aV x.V.length cV, .slice aH x.H.length cH] 25)).alloc (.cells #[.slice none 0 0, .slice none 0 0, .slice none 0 0, .slice none 0 0] 25)) = u at *
  obtain ⟨_, c0, c1, c2, c3, _, _, _, _⟩ := HB.out
  go_wp2_with fail
  refine (impl_NamOk x _ _ _ _ _ _ _ _ _ (HS.out.fr HF.out) HW.out).mono ?_
  rintro e u1 ⟨rfl, f⟩
  clear c0 c1 c2 c3
  replace HF := Lib.hid (HF.out.trans f)
  replace HB := Lib.hid (HB.out.fr f)
  replace HZ := Lib.hid (HZ.out.fr f)
  clear f
  rw [HO.out]
  obtain ⟨_, z0, z1, z2, z3, zf0, zf1, zf2, zf3⟩ := HZ.out
  go_wp2_with fail
  refine bodyPost_ret (v := .agg #[.slice none 0 0, .slice none 0 0, .slice none 0 0, .slice none 0 0]) (by simp [results, Try.results34, go_sem, World.cell?_setCell_other, World.cell?_setCell_same, z0, z1, z2, z3]) rfl ⟨none, none, none, none, 0, 0, 0, 0, rfl, VcNm.nil _ _ _ _ _ _, ?_⟩
  exact fr_but HF.out ((But.refl _ _).set4 (w.heap.size + 1) _ _ _ _ (.inl (by simp)) : But [w.heap.size + 1] _ _) (fun k hk => by have := List.mem_singleton.1 hk; omega)
set_option maxRecDepth 8000 in
set_option maxHeartbeats 4000000 in
theorem impl_NamBack_2 (x : Nm) (aM aF aV aH : Option Addr) (cM cF cV cH : Nat) (d now old : Int) (w : World) (h : SrcN w x aM aF aV aH) (hf : Few6 x) (h1 : okN x = true) (h2 : (decide (0 ≤ d) && decide (d < 8)) = false) :
    Calls Try.prog 34 #[.agg #[.slice aM x.M.length cM, .slice aF x.F.length cF, .slice aV x.V.length cV, .slice aH x.H.length cH], .int .i64 d, .int .i64 now, .int .i64 old] w (NmP nm0 w) := by
  have F2 : Fr w ((w.alloc (.cells #[.slice aM x.M.length cM, .slice aF x.F.length cF, .slice aV x.V.length cV, .slice aH x.H.length cH] 25)).alloc (.cells #[.slice none 0 0, .slice none 0 0, .slice none 0 0, .slice none 0 0] 25)) := by (repeat' first | (with_reducible exact Below.refl _ _) | (with_reducible assumption) | ((with_reducible refine Below.setCell ?_ ?hb _); (case hb => first | exact Nat.le_refl _ | (simp; done) | (simp; omega) | omega)) | ((with_reducible refine Below.alloc ?_ ?hb _); (case hb => first | exact Nat.le_refl _ | (simp; done) | (simp; omega) | omega)) | (with_reducible refine Below.drew ?_))
  have HF := Lib.hid F2
  have HB := Lib.hid (show Box4 ((w.alloc (.cells #[.slice aM x.M.length cM, .slice aF x.F.length cF, .slice aV x.V.length cV, .slice aH x.H.length cH] 25)).alloc (.cells #[.slice none 0 0, .slice none 0 0, .slice none 0 0, .slice none 0 0] 25)) w.heap.size (.slice aM x.M.length cM) (.slice aF x.F.length cF) (.slice aV x.V.length cV) (.slice aH x.H.length cH) from (Box4.new _ _ _ _ _ _ _ rfl).fr (Fr.alloc _ _))
  have HZ := Lib.hid (show Box4 ((w.alloc (.cells #[.slice aM x.M.length cM, .slice aF x.F.length cF, .slice aV x.V.length cV, .slice aH x.H.length cH] 25)).alloc (.cells #[.slice none 0 0, .slice none 0 0, .slice none 0 0, .slice none 0 0] 25)) (w.heap.size + 1) (.slice none 0 0) (.slice none 0 0) (.slice none 0 0) (.slice none 0 0) from Box4.new _ _ _ _ _ _ _ (by simp))
  have HS := Lib.hid h
  have HW := Lib.hid hf
  have HO := Lib.hid h1
  have H2 := Lib.hid h2
  clear h1 h2
  clear F2 h hf
  go_enter Try.func34, Try.ntmps34
  go_upto_region 1 with fail
  generalize ((w.alloc (.cells #[.slice aM x.M.length cM, .slice aF x.F.length cF, .slice aV x.V.length cV, .slice aH x.H.length cH] 25)).alloc (.cells #[.slice none 0 0, .slice none 0 0, .slice none 0 0, .slice none 0 0] 25)) = u at *
  obtain ⟨_, c0, c1, c2, c3, _, _, _, _⟩ := HB.out
  go_wp2_with fail
  refine (impl_NamOk x _ _ _ _ _ _ _ _ _ (HS.out.fr HF.out) HW.out).mono ?_
  rintro e u1 ⟨rfl, f⟩
  clear c0 c1 c2 c3
  replace HF := Lib.hid (HF.out.trans f)
  replace HB := Lib.hid (HB.out.fr f)
  replace HZ := Lib.hid (HZ.out.fr f)
  clear f
  rw [HO.out]
  go_wp2_with fail
  refine (impl_isReg d _).mono ?_
  rintro e w' ⟨rfl, rfl⟩
  rw [H2.out]
  obtain ⟨_, z0, z1, z2, z3, zf0, zf1, zf2, zf3⟩ := HZ.out
  go_wp2_with fail
  refine bodyPost_ret (v := .agg #[.slice none 0 0, .slice none 0 0, .slice none 0 0, .slice none 0 0]) (by simp [results, Try.results34, go_sem, World.cell?_setCell_other, World.cell?_setCell_same, z0, z1, z2, z3]) rfl ⟨none, none, none, none, 0, 0, 0, 0, rfl, VcNm.nil _ _ _ _ _ _, ?_⟩
  exact fr_but HF.out ((But.refl _ _).set4 (w.heap.size + 1) _ _ _ _ (.inl (by simp)) : But [w.heap.size + 1] _ _) (fun k hk => by have := List.mem_singleton.1 hk; omega)
set_option maxRecDepth 8000 in
set_option maxHeartbeats 4000000 in
theorem impl_NamBack_3 (x : Nm) (aM aF aV aH : Option Addr) (cM cF cV cH : Nat) (d now old : Int) (w : World) (h : SrcN w x aM aF aV aH) (hf : Few6 x) (h1 : okN x = true) (h2 : (decide (0 ≤ d) && decide (d < 8)) = true) (h3 : (d == 0) = true) :
    Calls Try.prog 34 #[.agg #[.slice aM x.M.length cM, .slice aF x.F.length cF, .slice aV x.V.length cV, .slice aH x.H.length cH], .int .i64 d, .int .i64 now, .int .i64 old] w (NmP nm0 w) := by
  have F2 : Fr w ((w.alloc (.cells #[.slice aM x.M.length cM, .slice aF x.F.length cF, .slice aV x.V.length cV, .slice aH x.H.length cH] 25)).alloc (.cells #[.slice none 0 0, .slice none 0 0, .slice none 0 0, .slice none 0 0] 25)) := by (repeat' first | (with_reducible exact Below.refl _ _) | (with_reducible assumption) | ((with_reducible refine Below.setCell ?_ ?hb _); (case hb => first | exact Nat.le_refl _ | (simp; done) | (simp; omega) | omega)) | ((with_reducible refine Below.alloc ?_ ?hb _); (case hb => first | exact Nat.le_refl _ | (simp; done) | (simp; omega) | omega)) | (with_reducible refine Below.drew ?_))
  have HF := Lib.hid F2
  have HB := Lib.hid (show Box4 ((w.alloc (.cells #[.slice aM x.M.length cM, .slice aF x.F.length cF, .slice aV x.V.length cV, .slice aH x.H.length cH] 25)).alloc (.cells #[.slice none 0 0, .slice none 0 0, .slice none 0 0, .slice none 0 0] 25)) w.heap.size (.slice aM x.M.length cM) (.slice aF x.F.length cF) (.slice aV x.V.length cV) (.slice aH x.H.length cH) from (Box4.new _ _ _ _ _ _ _ rfl).fr (Fr.alloc _ _))
  have HZ := Lib.hid (show Box4 ((w.alloc (.cells #[.slice aM x.M.length cM, .slice aF x.F.length cF, .slice aV x.V.length cV, .slice aH x.H.length cH] 25)).alloc (.cells #[.slice none 0 0, .slice none 0 0, .slice none 0 0, .slice none 0 0] 25)) (w.heap.size + 1) (.slice none 0 0) (.slice none 0 0) (.slice none 0 0) (.slice none 0 0) from Box4.new _ _ _ _ _ _ _ (by simp))
  have HS := Lib.hid h
  have HW := Lib.hid hf
  have HO := Lib.hid h1
  have H2 := Lib.hid h2
  clear h1 h2
  clear F2 h hf
  go_enter Try.func34, Try.ntmps34
  go_upto_region 1 with fail
  generalize ((w.alloc (.cells #[.slice aM x.M.length cM, .slice aF x.F.length cF, .slice aV x.V.length cV, .slice aH x.H.length cH] 25)).alloc (.cells #[.slice none 0 0, .slice none 0 0, .slice none 0 0, .slice none 0 0] 25)) = u at *
  obtain ⟨_, c0, c1, c2, c3, _, _, _, _⟩ := HB.out
  go_wp2_with fail
  refine (impl_NamOk x _ _ _ _ _ _ _ _ _ (HS.out.fr HF.out) HW.out).mono ?_
  rintro e u1 ⟨rfl, f⟩
  clear c0 c1 c2 c3
  replace HF := Lib.hid (HF.out.trans f)
  replace HB := Lib.hid (HB.out.fr f)
  replace HZ := Lib.hid (HZ.out.fr f)
  clear f
  rw [HO.out]
  go_wp2_with fail
  refine (impl_isReg d _).mono ?_
  rintro e w' ⟨rfl, rfl⟩
  rw [H2.out]
  obtain ⟨_, c0, c1, c2, c3, _, _, _, _⟩ := HB.out
  obtain ⟨_, z0, z1, z2, z3, zf0, zf1, zf2, zf3⟩ := HZ.out
  go_wp2_with fail
  refine bodyPost_ret (v := .agg #[.slice none 0 0, .slice none 0 0, .slice none 0 0, .slice none 0 0]) (by simp [results, Try.results34, go_sem, World.cell?_setCell_other, World.cell?_setCell_same, z0, z1, z2, z3]) rfl ⟨none, none, none, none, 0, 0, 0, 0, rfl, VcNm.nil _ _ _ _ _ _, ?_⟩
  exact fr_but HF.out ((But.refl _ _).set4 (w.heap.size + 1) _ _ _ _ (.inl (by simp)) : But [w.heap.size + 1] _ _) (fun k hk => by have := List.mem_singleton.1 hk; omega)
set_option maxRecDepth 8000 in
set_option maxHeartbeats 4000000 in
theorem impl_NamBack_4 (x : Nm) (aM aF aV aH : Option Addr) (cM cF cV cH : Nat) (d now old : Int) (w : World) (h : SrcN w x aM aF aV aH) (hf : Few6 x) (h1 : okN x = true) (h2 : (decide (0 ≤ d) && decide (d < 8)) = true) (h3 : (d == 0) = false) (h4 : (x.M.getD d.toNat 0 != now) = true) :
    Calls Try.prog 34 #[.agg #[.slice aM x.M.length cM, .slice aF x.F.length cF, .slice aV x.V.length cV, .slice aH x.H.length cH], .int .i64 d, .int .i64 now, .int .i64 old] w (NmP nm0 w) := by
  have F2 : Fr w ((w.alloc (.cells #[.slice aM x.M.length cM, .slice aF x.F.length cF, .slice aV x.V.length cV, .slice aH x.H.length cH] 25)).alloc (.cells #[.slice none 0 0, .slice none 0 0, .slice none 0 0, .slice none 0 0] 25)) := by (repeat' first | (with_reducible exact Below.refl _ _) | (with_reducible assumption) | ((with_reducible refine Below.setCell ?_ ?hb _); (case hb => first | exact Nat.le_refl _ | (simp; done) | (simp; omega) | omega)) | ((with_reducible refine Below.alloc ?_ ?hb _); (case hb => first | exact Nat.le_refl _ | (simp; done) | (simp; omega) | omega)) | (with_reducible refine Below.drew ?_))
  have HF := Lib.hid F2
  have HB := Lib.hid (show Box4 ((w.alloc (.cells #[.slice aM x.M.length cM, .slice aF x.F.length cF, .slice aV x.V.length cV, .slice aH x.H.length cH] 25)).alloc (.cells #[.slice none 0 0, .slice none 0 0, .slice none 0 0, .slice none 0 0] 25)) w.heap.size (.slice aM x.M.length cM) (.slice aF x.F.length cF) (.slice aV x.V.length cV) (.slice aH x.H.length cH) from (Box4.new _ _ _ _ _ _ _ rfl).fr (Fr.alloc _ _))
  have HZ := Lib.hid (show Box4 ((w.alloc (.cells #[.slice aM x.M.length cM, .slice aF x.F.length cF, .slice aV x.V.length cV, .slice aH x.H.length cH] 25)).alloc (.cells #[.slice none 0 0, .slice none 0 0, .slice none 0 0, .slice none 0 0] 25)) (w.heap.size + 1) (.slice none 0 0) (.slice none 0 0) (.slice none 0 0) (.slice none 0 0) from Box4.new _ _ _ _ _ _ _ (by simp))
  have HS := Lib.hid h
  have HW := Lib.hid hf
  have HO := Lib.hid h1
  have H2 := Lib.hid h2
  have HK := Lib.hid (okN_ok h1)
  have HDb := Lib.hid (reg6_bd h2)
  have H4 := Lib.hid h4
  clear h4
  clear h1 h2
  clear F2 h hf
  go_enter Try.func34, Try.ntmps34
  go_upto_region 1 with fail
  generalize ((w.alloc (.cells #[.slice aM x.M.length cM, .slice aF x.F.length cF, .slice aV x.V.length cV, .slice aH x.H.length cH] 25)).alloc (.cells #[.slice none 0 0, .slice none 0 0, .slice none 0 0, .slice none 0 0] 25)) = u at *
  obtain ⟨_, c0, c1, c2, c3, _, _, _, _⟩ := HB.out
  go_wp2_with fail
  refine (impl_NamOk x _ _ _ _ _ _ _ _ _ (HS.out.fr HF.out) HW.out).mono ?_
  rintro e u1 ⟨rfl, f⟩
  clear c0 c1 c2 c3
  replace HF := Lib.hid (HF.out.trans f)
  replace HB := Lib.hid (HB.out.fr f)
  replace HZ := Lib.hid (HZ.out.fr f)
  clear f
  rw [HO.out]
  go_wp2_with fail
  refine (impl_isReg d _).mono ?_
  rintro e w' ⟨rfl, rfl⟩
  rw [H2.out]
  obtain ⟨q, rfl⟩ : ∃ q : Nat, d = q := ⟨d.toNat, by have := HDb.out; omega⟩
  have hq : q < 8 := by have := HDb.out; omega
  obtain ⟨gM, oM, hao, hgl, hcM⟩ := (HS.out.fr HF.out).M (by rw [HK.out.Ml]; omega)
  have d0 := hcM q (by rw [HK.out.Ml]; exact hq)
  simp only [ivl] at d0
  rw [Int.toNat_natCast] at H4
  have h4 := H4.out
  have hlq : q < x.M.length := by rw [HK.out.Ml]; exact hq
  have hq0 : (0 : Int) ≤ (q : Int) := by omega
  clear hcM
  obtain ⟨mo, hmo⟩ : ∃ mo, x.M.getD q 0 = mo := ⟨_, rfl⟩
  rw [hmo] at d0 h4
  clear hmo
  obtain ⟨_, c0, c1, c2, c3, _, _, _, _⟩ := HB.out
  rw [hao] at c0
  obtain ⟨_, z0, z1, z2, z3, zf0, zf1, zf2, zf3⟩ := HZ.out
  go_wp2_with fail
  refine bodyPost_ret (v := .agg #[.slice none 0 0, .slice none 0 0, .slice none 0 0, .slice none 0 0]) (by simp [results, Try.results34, go_sem, World.cell?_setCell_other, World.cell?_setCell_same, z0, z1, z2, z3]) rfl ⟨none, none, none, none, 0, 0, 0, 0, rfl, VcNm.nil _ _ _ _ _ _, ?_⟩
  exact fr_but HF.out ((But.refl _ _).set4 (w.heap.size + 1) _ _ _ _ (.inl (by simp)) : But [w.heap.size + 1] _ _) (fun k hk => by have := List.mem_singleton.1 hk; omega)
set_option maxRecDepth 8000 in
set_option maxHeartbeats 4000000 in
theorem impl_NamBack_5 (x : Nm) (aM aF aV aH : Option Addr) (cM cF cV cH : Nat) (d now old : Int) (w : World) (h : SrcN w x aM aF aV aH) (hf : Few6 x) (h1 : okN x = true) (h2 : (decide (0 ≤ d) && decide (d < 8)) = true) (h3 : (d == 0) = false) (h4 : (x.M.getD d.toNat 0 != now) = false) (h5 : looseB x old = false) :
    Calls Try.prog 34 #[.agg #[.slice aM x.M.length cM, .slice aF x.F.length cF, .slice aV x.V.length cV, .slice aH x.H.length cH], .int .i64 d, .int .i64 now, .int .i64 old] w (NmP nm0 w) := by
  have F2 : Fr w ((w.alloc (.cells #[.slice aM x.M.length cM, .slice aF x.F.length cF, .slice aV x.V.length cV, .slice aH x.H.length cH] 25)).alloc (.cells #[.slice none 0 0, .slice none 0 0, .slice none 0 0, .slice none 0 0] 25)) := by (repeat' first | (with_reducible exact Below.refl _ _) | (with_reducible assumption) | ((with_reducible refine Below.setCell ?_ ?hb _); (case hb => first | exact Nat.le_refl _ | (simp; done) | (simp; omega) | omega)) | ((with_reducible refine Below.alloc ?_ ?hb _); (case hb => first | exact Nat.le_refl _ | (simp; done) | (simp; omega) | omega)) | (with_reducible refine Below.drew ?_))
  have HF := Lib.hid F2
  have HB := Lib.hid (show Box4 ((w.alloc (.cells #[.slice aM x.M.length cM, .slice aF x.F.length cF, .slice aV x.V.length cV, .slice aH x.H.length cH] 25)).alloc (.cells #[.slice none 0 0, .slice none 0 0, .slice none 0 0, .slice none 0 0] 25)) w.heap.size (.slice aM x.M.length cM) (.slice aF x.F.length cF) (.slice aV x.V.length cV) (.slice aH x.H.length cH) from (Box4.new _ _ _ _ _ _ _ rfl).fr (Fr.alloc _ _))
  have HZ := Lib.hid (show Box4 ((w.alloc (.cells #[.slice aM x.M.length cM, .slice aF x.F.length cF, .slice aV x.V.length cV, .slice aH x.H.length cH] 25)).alloc (.cells #[.slice none 0 0, .slice none 0 0, .slice none 0 0, .slice none 0 0] 25)) (w.heap.size + 1) (.slice none 0 0) (.slice none 0 0) (.slice none 0 0) (.slice none 0 0) from Box4.new _ _ _ _ _ _ _ (by simp))
  have HS := Lib.hid h
  have HW := Lib.hid hf
  have HO := Lib.hid h1
  have H2 := Lib.hid h2
  have HLO := Lib.hid h5
  clear h5
  have HK := Lib.hid (okN_ok h1)
  have HDb := Lib.hid (reg6_bd h2)
  have H4 := Lib.hid h4
  clear h4
  clear h1 h2
  clear F2 h hf
  go_enter Try.func34, Try.ntmps34
  go_upto_region 1 with fail
  generalize ((w.alloc (.cells #[.slice aM x.M.length cM, .slice aF x.F.length cF, .slice aV x.V.length cV, .slice aH x.H.length cH] 25)).alloc (.cells #[.slice none 0 0, .slice none 0 0, .slice none 0 0, .slice none 0 0] 25)) = u at *
  obtain ⟨_, c0, c1, c2, c3, _, _, _, _⟩ := HB.out
  go_wp2_with fail
  refine (impl_NamOk x _ _ _ _ _ _ _ _ _ (HS.out.fr HF.out) HW.out).mono ?_
  rintro e u1 ⟨rfl, f⟩
  clear c0 c1 c2 c3
  replace HF := Lib.hid (HF.out.trans f)
  replace HB := Lib.hid (HB.out.fr f)
  replace HZ := Lib.hid (HZ.out.fr f)
  clear f
  rw [HO.out]
  go_wp2_with fail
  refine (impl_isReg d _).mono ?_
  rintro e w' ⟨rfl, rfl⟩
  rw [H2.out]
  obtain ⟨q, rfl⟩ : ∃ q : Nat, d = q := ⟨d.toNat, by have := HDb.out; omega⟩
  have hq : q < 8 := by have := HDb.out; omega
  obtain ⟨gM, oM, hao, hgl, hcM⟩ := (HS.out.fr HF.out).M (by rw [HK.out.Ml]; omega)
  have d0 := hcM q (by rw [HK.out.Ml]; exact hq)
  simp only [ivl] at d0
  rw [Int.toNat_natCast] at H4
  have h4 := H4.out
  have hlq : q < x.M.length := by rw [HK.out.Ml]; exact hq
  have hq0 : (0 : Int) ≤ (q : Int) := by omega
  clear hcM
  obtain ⟨mo, hmo⟩ : ∃ mo, x.M.getD q 0 = mo := ⟨_, rfl⟩
  rw [hmo] at d0 h4
  clear hmo
  obtain ⟨_, c0, c1, c2, c3, _, _, _, _⟩ := HB.out
  rw [hao] at c0
  go_wp2_with fail
  rw [← hao]
  refine (impl_isLoose x _ _ _ _ _ _ _ _ old _ (HS.out.fr HF.out) HW.out).mono ?_
  rintro e u2 ⟨rfl, f⟩
  clear c0 c1 c2 c3 d0 h4 hlq hao hgl
  replace HF := Lib.hid (HF.out.trans f)
  replace HB := Lib.hid (HB.out.fr f)
  replace HZ := Lib.hid (HZ.out.fr f)
  clear f
  rw [HLO.out]
  obtain ⟨_, z0, z1, z2, z3, zf0, zf1, zf2, zf3⟩ := HZ.out
  go_wp2_with fail
  refine bodyPost_ret (v := .agg #[.slice none 0 0, .slice none 0 0, .slice none 0 0, .slice none 0 0]) (by simp [results, Try.results34, go_sem, World.cell?_setCell_other, World.cell?_setCell_same, z0, z1, z2, z3]) rfl ⟨none, none, none, none, 0, 0, 0, 0, rfl, VcNm.nil _ _ _ _ _ _, ?_⟩
  exact fr_but HF.out ((But.refl _ _).set4 (w.heap.size + 1) _ _ _ _ (.inl (by simp)) : But [w.heap.size + 1] _ _) (fun k hk => by have := List.mem_singleton.1 hk; omega)
set_option maxRecDepth 8000 in
set_option maxHeartbeats 4000000 in
theorem impl_NamBack_6 (x : Nm) (aM aF aV aH : Option Addr) (cM cF cV cH : Nat) (d now old : Int) (w : World) (h : SrcN w x aM aF aV aH) (hf : Few6 x) (h1 : okN x = true) (h2 : (decide (0 ≤ d) && decide (d < 8)) = true) (h3 : (d == 0) = false) (h4 : (x.M.getD d.toNat 0 != now) = false) (h5 : looseB x old = true) :
    Calls Try.prog 34 #[.agg #[.slice aM x.M.length cM, .slice aF x.F.length cF, .slice aV x.V.length cV, .slice aH x.H.length cH], .int .i64 d, .int .i64 now, .int .i64 old] w (NmP (backG x d now old) w) := by
  have F2 : Fr w ((w.alloc (.cells #[.slice aM x.M.length cM, .slice aF x.F.length cF, .slice aV x.V.length cV, .slice aH x.H.length cH] 25)).alloc (.cells #[.slice none 0 0, .slice none 0 0, .slice none 0 0, .slice none 0 0] 25)) := by (repeat' first | (with_reducible exact Below.refl _ _) | (with_reducible assumption) | ((with_reducible refine Below.setCell ?_ ?hb _); (case hb => first | exact Nat.le_refl _ | (simp; done) | (simp; omega) | omega)) | ((with_reducible refine Below.alloc ?_ ?hb _); (case hb => first | exact Nat.le_refl _ | (simp; done) | (simp; omega) | omega)) | (with_reducible refine Below.drew ?_))
  have HF := Lib.hid F2
  have HB := Lib.hid (show Box4 ((w.alloc (.cells #[.slice aM x.M.length cM, .slice aF x.F.length cF, .slice aV x.V.length cV, .slice aH x.H.length cH] 25)).alloc (.cells #[.slice none 0 0, .slice none 0 0, .slice none 0 0, .slice none 0 0] 25)) w.heap.size (.slice aM x.M.length cM) (.slice aF x.F.length cF) (.slice aV x.V.length cV) (.slice aH x.H.length cH) from (Box4.new _ _ _ _ _ _ _ rfl).fr (Fr.alloc _ _))
  have HZ := Lib.hid (show Box4 ((w.alloc (.cells #[.slice aM x.M.length cM, .slice aF x.F.length cF, .slice aV x.V.length cV, .slice aH x.H.length cH] 25)).alloc (.cells #[.slice none 0 0, .slice none 0 0, .slice none 0 0, .slice none 0 0] 25)) (w.heap.size + 1) (.slice none 0 0) (.slice none 0 0) (.slice none 0 0) (.slice none 0 0) from Box4.new _ _ _ _ _ _ _ (by simp))
  have HS := Lib.hid h
  have HW := Lib.hid hf
  have HO := Lib.hid h1
  have H2 := Lib.hid h2
  have HLO := Lib.hid h5
  clear h5
  have HK := Lib.hid (okN_ok h1)
  have HDb := Lib.hid (reg6_bd h2)
  have HM := Lib.hid (okN_free (okN_ok h1) HLO.out)
  have H4 := Lib.hid h4
  clear h4
  clear h1 h2
  clear F2 h hf
  go_enter Try.func34, Try.ntmps34
  go_upto_region 1 with fail
  generalize ((w.alloc (.cells #[.slice aM x.M.length cM, .slice aF x.F.length cF, .slice aV x.V.length cV, .slice aH x.H.length cH] 25)).alloc (.cells #[.slice none 0 0, .slice none 0 0, .slice none 0 0, .slice none 0 0] 25)) = u at *
  obtain ⟨_, c0, c1, c2, c3, _, _, _, _⟩ := HB.out
  go_wp2_with fail
  refine (impl_NamOk x _ _ _ _ _ _ _ _ _ (HS.out.fr HF.out) HW.out).mono ?_
  rintro e u1 ⟨rfl, f⟩
  clear c0 c1 c2 c3
  replace HF := Lib.hid (HF.out.trans f)
  replace HB := Lib.hid (HB.out.fr f)
  replace HZ := Lib.hid (HZ.out.fr f)
  clear f
  rw [HO.out]
  go_wp2_with fail
  refine (impl_isReg d _).mono ?_
  rintro e w' ⟨rfl, rfl⟩
  rw [H2.out]
  obtain ⟨q, rfl⟩ : ∃ q : Nat, d = q := ⟨d.toNat, by have := HDb.out; omega⟩
  have hq : q < 8 := by have := HDb.out; omega
  obtain ⟨gM, oM, hao, hgl, hcM⟩ := (HS.out.fr HF.out).M (by rw [HK.out.Ml]; omega)
  have d0 := hcM q (by rw [HK.out.Ml]; exact hq)
  simp only [ivl] at d0
  rw [Int.toNat_natCast] at H4
  have h4 := H4.out
  have hlq : q < x.M.length := by rw [HK.out.Ml]; exact hq
  have hq0 : (0 : Int) ≤ (q : Int) := by omega
  clear hcM
  have HMO := Lib.hid h4
  obtain ⟨mo, hmo⟩ : ∃ mo, x.M.getD q 0 = mo := ⟨_, rfl⟩
  rw [hmo] at d0 h4
  clear hmo
  obtain ⟨_, c0, c1, c2, c3, _, _, _, _⟩ := HB.out
  rw [hao] at c0
  go_wp2_with fail
  rw [← hao]
  refine (impl_isLoose x _ _ _ _ _ _ _ _ old _ (HS.out.fr HF.out) HW.out).mono ?_
  rintro e u2 ⟨rfl, f⟩
  clear c0 c1 c2 c3 d0 h4 hlq hao hgl
  replace HF := Lib.hid (HF.out.trans f)
  replace HB := Lib.hid (HB.out.fr f)
  replace HZ := Lib.hid (HZ.out.fr f)
  clear f
  rw [HLO.out]
  obtain ⟨_, c0, c1, c2, c3, _, _, _, _⟩ := HB.out
  go_wp2_with fail
  refine (impl_namesOf x.M x.F x.V x.H _ _ _ _ _ _ _ _ _ (HS.out.fr HF.out) HK.out.Ml HK.out.Fl HK.out.Vl HK.out.Hl).mono ?_
  rintro e un ⟨g, rfl, hg, nb, f⟩
  clear c0 c1 c2 c3
  have hge : w.heap.size + 1 < g := Nat.lt_of_lt_of_le HZ.out.lt hg
  have HN := Lib.hid nb
  replace HF := Lib.hid (HF.out.trans f)
  replace HZ := Lib.hid (HZ.out.fr f)
  clear HB nb f hg
  go_wp2_with fail
  refine (impl_undo x.M (ringP x.F) 0 x.F.length x.V x.H g q now old _ HN.out hq HM.out).mono ?_
  rintro e ut ⟨rfl, nb, b⟩
  replace HN := Lib.hid nb
  replace HF := Lib.hid (fr_new HF.out b (by omega))
  replace HZ := Lib.hid (HZ.out.but b (by simp; omega))
  clear nb b
  have hR : ringL ((ringP x.F).set ((0 + x.F.length) % 12) now) 0 (x.F.length + 1) = x.F ++ [now] := by rw [ringL_put _ _ _ _ (ringP_len _ HK.out.Fl) (by omega) HM.out, ringL_P _ HK.out.Fl]
  have HC := Lib.hid (impl_state _ _ _ _ _ _ _ _ HN.out)
  rw [hR] at HC
  clear hR
  go_wp2_with fail
  refine (HC.out).mono ?_
  rintro e v ⟨rM, rF, rV, rH, qM, qF, qV, qH, rfl, rv, f⟩
  have HV := Lib.hid rv
  have hzl := HZ.out.lt
  have HBk := Lib.hid rv.blk
  replace HF := Lib.hid (HF.out.trans f)
  obtain ⟨_, z0, z1, z2, z3, zf0, zf1, zf2, zf3⟩ := HZ.out.fr f
  have hst : ∀ a b c d, But [w.heap.size + 1] v ((((v.setCell ⟨w.heap.size + 1, 0, none⟩ a).setCell ⟨w.heap.size + 1, 1, none⟩ b).setCell ⟨w.heap.size + 1, 2, none⟩ c).setCell ⟨w.heap.size + 1, 3, none⟩ d) := fun a b c d => (But.refl _ _).set4 (w.heap.size + 1) a b c d (.inl (by simp))
  have HST := Lib.hid hst
  clear rv f hst
  go_wp2_with fail
  refine bodyPost_ret (v := .agg #[.slice rM (backG x q now old).M.length qM, .slice rF (backG x q now old).F.length qF, .slice rV (backG x q now old).V.length qV, .slice rH (backG x q now old).H.length qH]) (by simp [results, Try.results34, go_sem, World.cell?_setCell_other, World.cell?_setCell_same, z0, z1, z2, z3, freeG, putG, backG, takeG]) rfl ?_
  exact ⟨rM, rF, rV, rH, qM, qF, qV, qH, rfl, (HV.out.mono (by have := HF.out.size; omega)).but (HST.out _ _ _ _) (fun k hk hm => by have := HBk.out k hk; have := List.mem_singleton.1 hm; omega), fr_but HF.out (HST.out _ _ _ _) (fun k hk => by have := List.mem_singleton.1 hk; omega)⟩
theorem impl_NamBack (x : Nm) (aM aF aV aH : Option Addr) (cM cF cV cH : Nat) (d now old : Int) (w : World) (h : SrcN w x aM aF aV aH) (hf : Few6 x) :
    Calls Try.prog 34 #[.agg #[.slice aM x.M.length cM, .slice aF x.F.length cF, .slice aV x.V.length cV, .slice aH x.H.length cH], .int .i64 d, .int .i64 now, .int .i64 old] w (NmP (backA x d now old) w) := by
  cases h1 : okN x
  · rw [show backA x d now old = nm0 by simp [backA, h1]]
    exact impl_NamBack_1 x _ _ _ _ _ _ _ _ d now old w h hf h1
  · cases h2 : (decide (0 ≤ d) && decide (d < 8))
    · have hr : regB d = false := by simp [regB] at h2 ⊢; omega
      rw [show backA x d now old = nm0 by simp [backA, hr]]
      exact impl_NamBack_2 x _ _ _ _ _ _ _ _ d now old w h hf h1 h2
    · by_cases h3 : d = 0
      · have hr : regB d = false := by simp [regB]; omega
        rw [show backA x d now old = nm0 by simp [backA, hr]]
        exact impl_NamBack_3 x _ _ _ _ _ _ _ _ d now old w h hf h1 h2 (by simpa using h3)
      · have hr : regB d = true := by simp [regB] at h2 ⊢; omega
        by_cases h4 : x.M.getD d.toNat 0 = now
        · cases h5 : looseB x old
          · rw [show backA x d now old = nm0 by unfold backA; rw [h5]; simp]
            exact impl_NamBack_5 x _ _ _ _ _ _ _ _ d now old w h hf h1 h2 (by simpa using h3) (by rw [h4]; simp) h5
          · rw [show backA x d now old = backG x d now old by unfold backA; rw [h1, hr, h5, decide_eq_true h4]; rfl]
            exact impl_NamBack_6 x _ _ _ _ _ _ _ _ d now old w h hf h1 h2 (by simpa using h3) (by rw [h4]; simp) h5
        · rw [show backA x d now old = nm0 by unfold backA; rw [decide_eq_false h4]; simp]
          exact impl_NamBack_4 x _ _ _ _ _ _ _ _ d now old w h hf h1 h2 (by simpa using h3) (by rw [bne_iff_ne]; exact h4)

end Go.Proofs.Ytddllgjieccikaa
