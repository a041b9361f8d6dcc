/- The program's PlnOk. -/
import Derived.Test.YtbjapncfgancoaaDoorPl1
namespace Go.Proofs.YtbjapncfgancoaaDoor
open Go.RowKit
set_option linter.unusedVariables false
set_option linter.unusedSimpArgs false
set_option maxHeartbeats 2000000 in
theorem impl_PlnOk (s : St) (aR aC aM : Option Addr) (cR cC cM : Nat) (w : World) (h : SrcS w s aR aC aM) (hf : Few s) :
    Calls Tryd.prog 43 #[.agg #[.int .i64 (s).pc, .slice aR (s).R.length cR, .slice aC (s).C.length cC, .slice aM (s).M.length cM]] w fun e w' => e = .returned (.bool (okS s)) ∧ Fr w w' := by
  obtain ⟨pc, R, C, M⟩ := s
  obtain ⟨hR, hC, hM⟩ := h
  obtain ⟨fR, fC, fM⟩ := hf
  simp only at hR hC hM fR fC fM
  have F1 := Fr.alloc w (.cells #[.int .i64 pc, .slice aR R.length cR, .slice aC C.length cC, .slice aM M.length cM] 26)
  have E1 := impl_areWords R aR cR 8 _ (hR.fr F1) fR
  have E2 := impl_areWords C aC cC 5 _ (hC.fr F1) fC
  have E3 := impl_areWords M aM cM 256 _ (hM.fr F1) fM
  rw [show (8 : Int) = ((8 : Nat) : Int) from rfl, words_eq] at E1
  rw [show (5 : Int) = ((5 : Nat) : Int) from rfl, words_eq] at E2
  rw [show (256 : Int) = ((256 : Nat) : Int) from rfl, words_eq] at E3
  have X1 := Lib.hid E1
  have X2 := Lib.hid E2
  have X3 := Lib.hid E3
  have HF := Lib.hid F1
  clear E1 E2 E3
  show Calls Tryd.prog 43 #[.agg #[.int .i64 pc, .slice aR R.length cR, .slice aC C.length cC, .slice aM M.length cM]] w fun e w' => e = .returned (.bool (okB pc && (wordsB R 8 && (wordsB C 5 && (wordsB M 256 && (decide (R.getD 0 0 = 0) && decide (C.getD 3 0 < 4))))))) ∧ Fr w w'
  cases hp : okB pc
  · clear hR hC hM F1
    go_enter Tryd.func43, Tryd.ntmps43
    go_wp2_with (go_at_call 56; refine (impl_WrdOk _ _).mono ?_; rintro e w' ⟨rfl, rfl⟩)
    go_ret
    exact ⟨rfl, HF.out⟩
  cases hb1 : wordsB R 8
  · rw [hb1] at X1
    clear hR hC hM F1
    go_enter Tryd.func43, Tryd.ntmps43
    go_wp2_with fail
    refine (impl_WrdOk _ _).mono ?_
    rintro e w' ⟨rfl, rfl⟩
    go_wp2_with fail
    refine X1.out.mono ?_
    rintro e w' ⟨rfl, rfl⟩
    go_wp2
    go_ret
    exact ⟨rfl, HF.out⟩
  cases hb2 : wordsB C 5
  · rw [hb1] at X1
    rw [hb2] at X2
    clear hR hC hM F1
    go_enter Tryd.func43, Tryd.ntmps43
    go_wp2_with fail
    refine (impl_WrdOk _ _).mono ?_
    rintro e w' ⟨rfl, rfl⟩
    go_wp2_with fail
    refine X1.out.mono ?_
    rintro e w' ⟨rfl, rfl⟩
    go_wp2_with fail
    refine X2.out.mono ?_
    rintro e w' ⟨rfl, rfl⟩
    go_wp2
    go_ret
    exact ⟨rfl, HF.out⟩
  cases hb3 : wordsB M 256
  · rw [hb1] at X1
    rw [hb2] at X2
    rw [hb3] at X3
    clear hR hC hM F1
    go_enter Tryd.func43, Tryd.ntmps43
    go_wp2_with fail
    refine (impl_WrdOk _ _).mono ?_
    rintro e w' ⟨rfl, rfl⟩
    go_wp2_with fail
    refine X1.out.mono ?_
    rintro e w' ⟨rfl, rfl⟩
    go_wp2_with fail
    refine X2.out.mono ?_
    rintro e w' ⟨rfl, rfl⟩
    go_wp2_with fail
    refine X3.out.mono ?_
    rintro e w' ⟨rfl, rfl⟩
    go_wp2
    go_ret
    exact ⟨rfl, HF.out⟩
  obtain ⟨hRk, hRl⟩ := wordsB_true hb1
  obtain ⟨g, o, rfl, hgl, d0, _⟩ := src_at (hR.fr F1) (by omega)
  have hl0 : (0 : Int) < (R.length : Int) := by omega
  obtain ⟨hCk, hCl⟩ := wordsB_true hb2
  obtain ⟨g', o', rfl, hgl', _, hcC⟩ := src_at (hC.fr F1) (by omega)
  have d3 := hcC 3 (by omega)
  have hl3 : (3 : Int) < (C.length : Int) := by omega
  rw [hb1] at X1
  rw [hb2] at X2
  rw [hb3] at X3
  clear hCl hCk hRl hRk hcC hR hC hM F1 hb1 hb2 hb3
  generalize R.getD 0 0 = r0 at d0 ⊢
  generalize C.getD 3 0 = c3 at d3 ⊢
  by_cases hr : r0 = 0
  · subst hr
    by_cases hc : c3 < 4
    · go_enter Tryd.func43, Tryd.ntmps43
      go_wp2_with fail
      refine (impl_WrdOk _ _).mono ?_
      rintro e w' ⟨rfl, rfl⟩
      go_wp2_with fail
      refine X1.out.mono ?_
      rintro e w' ⟨rfl, rfl⟩
      go_wp2_with fail
      refine X2.out.mono ?_
      rintro e w' ⟨rfl, rfl⟩
      go_wp2_with fail
      refine X3.out.mono ?_
      rintro e w' ⟨rfl, rfl⟩
      go_wp2
      go_ret
      exact ⟨ret_bool (by simp [hc]), HF.out⟩
    · have hd4 : decide (c3 < 4) = false := by simp; omega
      have HD := Lib.hid hd4
      clear hc
      go_enter Tryd.func43, Tryd.ntmps43
      go_wp2_with fail
      refine (impl_WrdOk _ _).mono ?_
      rintro e w' ⟨rfl, rfl⟩
      go_wp2_with fail
      refine X1.out.mono ?_
      rintro e w' ⟨rfl, rfl⟩
      go_wp2_with fail
      refine X2.out.mono ?_
      rintro e w' ⟨rfl, rfl⟩
      go_wp2_with fail
      refine X3.out.mono ?_
      rintro e w' ⟨rfl, rfl⟩
      go_wp2
      go_ret
      exact ⟨ret_bool (by simp [HD.out]), HF.out⟩
  · have hd : (r0 == 0) = false := by simpa using hr
    have HD := Lib.hid (show decide (r0 = 0) = false by simpa using hr)
    clear hr
    go_enter Tryd.func43, Tryd.ntmps43
    go_wp2_with fail
    refine (impl_WrdOk _ _).mono ?_
    rintro e w' ⟨rfl, rfl⟩
    go_wp2_with fail
    refine X1.out.mono ?_
    rintro e w' ⟨rfl, rfl⟩
    go_wp2_with fail
    refine X2.out.mono ?_
    rintro e w' ⟨rfl, rfl⟩
    go_wp2_with fail
    refine X3.out.mono ?_
    rintro e w' ⟨rfl, rfl⟩
    go_wp2
    go_ret
    exact ⟨ret_bool (by simp [HD.out]), HF.out⟩

end Go.Proofs.YtbjapncfgancoaaDoor
