/- What is ok, of caches: the program's ChcOk, the model's ChcOk. What is ok, of caches: the model's ChcOk. -/
import Derived.Test.YtiijhklkelaogaaK2
namespace Go.Proofs.Ytiijhklkelaogaa
open Go.RowKit
set_option linter.unusedVariables false
set_option linter.unusedSimpArgs false
abbrev caV (aM aL : Option Addr) (M : List Int) (X : List La) (cM cL : Nat) : Value := .agg #[.slice aM M.length cM, .slice aL X.length cL]
theorem okC_eq (M : List Int) (X : List La) : okC ⟨M, lns X⟩ = (wordsB M 256 && (decide (X.length = 4) && okLns M (lns X))) := by simp [okC]
theorem lns_len (X : List La) : (lns X).length = X.length := by simp [lns]
set_option maxRecDepth 100000 in
set_option maxHeartbeats 2000000 in
theorem impl_ChcOk (M : List Int) (X : List La) (aM aL : Option Addr) (cM cL : Nat) (w : World) (h : SrcC w M X aM aL) (hf : FewC M X) (hc : M.length ≤ cM) :
    Calls Try.prog 28 #[caV aM aL M X cM cL] w fun e w' => e = .returned (.bool (okC ⟨M, lns X⟩)) ∧ Fr w w' := by
  have F0 : Fr w (w.alloc (.cells #[.slice aM M.length cM, .slice aL X.length cL] 25)) := Fr.alloc _ _
  have HF := Lib.hid F0
  have HX := Lib.hid (Box2.new w (.slice aM M.length cM) (.slice aL X.length cL) 25 _ rfl)
  have HS := Lib.hid (h.fr F0)
  have hR : ∀ b, okC ⟨M, lns X⟩ = b → Hid (okC ⟨M, lns X⟩ = b) := fun b h => Lib.hid h
  have hE := Lib.hid (okC_eq M X)
  have P1 := impl_areWords M aM cM 256
  have e1 : (M.all okB && decide ((M.length : Int) = 256)) = wordsB M 256 := words_eq M 256
  rw [e1] at P1
  have hfM := hf.M
  have HFew := Lib.hid hf
  clear F0 h e1 hf
  cases h1 : wordsB M 256
  · have H := hR false (by rw [hE.out, h1]; rfl)
    rw [H.out]
    rw [h1] at P1
    have HP := Lib.hid P1
    clear P1 H h1 hE hR
    go_enter Try.func28, Try.ntmps28
    go_wp2_with fail
    generalize (w.alloc (.cells #[.slice aM M.length cM, .slice aL X.length cL] 25)) = u0 at *
    have HQ := Lib.hid (HP.out u0 HS.out.M (by omega))
    obtain ⟨_, c0, c1, _, _⟩ := HX.out
    go_wp2_with (go_at_call 52; refine HQ.out.mono ?_; rintro e w' ⟨rfl, rfl⟩)
    go_ret
    exact ⟨rfl, HF.out⟩
  · obtain ⟨hMa, hMl⟩ := wordsB_true h1
    rw [h1] at P1
    have HP := Lib.hid P1
    have HML := Lib.hid hMl
    clear P1 hMa hMl
    by_cases h2 : X.length = 4
    · have H : Hid (okC ⟨M, lns X⟩ = okLns M (lns X)) := Lib.hid (by rw [hE.out, h1, decide_eq_true h2]; rfl)
      rw [H.out]
      have HXL := Lib.hid h2
      clear H h1 hE hR
      unfold caV
      rw [h2] at HX HF HS ⊢
      have hc' := hc
      rw [HML.out] at hc'
      go_enter Try.func28, Try.ntmps28
      go_wp2_with fail
      generalize (w.alloc (.cells #[.slice aM M.length cM, .slice aL 4 cL] 25)) = u0 at *
      have HQ := Lib.hid (HP.out u0 HS.out.M (by omega))
      obtain ⟨_, c0, c1, _, _⟩ := HX.out
      go_upto_region 4 with (go_at_call 52; refine HQ.out.mono ?_; rintro e w' ⟨rfl, rfl⟩)
      clear HQ HP c0 c1
      go_loopw [18] (fun i wr => ∃ p : Nat, p ≤ 4 ∧ i = .int .i64 p ∧ (∀ j, j < p → okLn M (j : Int) ((lns X).getD j ln0) = true) ∧ Fr u0 wr) (fun i _ => 4 - (intOf i).toNat)
      case atStart => exact ⟨0, by omega, rfl, fun j hj => absurd hj (Nat.not_lt_zero _), Below.refl _ _⟩
      case round =>
        obtain ⟨p, hp, rfl, hok, hfr⟩ := hrel
        have HO := Lib.hid hok
        have HFr := Lib.hid hfr
        by_cases hlt : p < 4
        · have hS := HS.out.fr hfr
          obtain ⟨g, o, rfl, hgl, hrg⟩ := hS.L.at0 (by rw [HXL.out]; decide)
          obtain ⟨d0, d1, d2, d3⟩ := line_at hrg p (by rw [HXL.out]; exact hlt)
          have hwd := hS.L.wd p (by rw [HXL.out]; exact hlt)
          have hwl := HFew.out.W p (by rw [HXL.out]; exact hlt)
          have E := fun v (f : Fr wr v) => impl_fits7 (X.getD p la0) (p : Int) M aM cM v (by omega) (by omega) HML.out (by omega) (hS.M.fr f) (hwd.fr f) hwl
          rw [← lns_get X p] at E
          have HE := Lib.hid E
          obtain ⟨_, c0, c1, _, _⟩ := HX.out.fr hfr
          clear hS hrg hwd hwl E hok hfr
          have hlt' : (p : Int) < 4 := by omega
          cases hb : okLn M (p : Int) ((lns X).getD p ln0)
          · have H := Lib.hid (okLns_not (L := lns X) (p := p) (by rw [lns_len, HXL.out]; exact hlt) hb)
            rw [hb] at HE
            clear hb
            generalize X.getD p la0 = l at *
            have HA : Hid (Fr wr (wr.alloc (.cells #[.bool l.n.u, .int .i64 l.n.p, .bool l.n.d, .slice l.a l.n.W.length l.c] 50))) := Lib.hid (Fr.alloc _ _)
            go_wp2_with (go_at_call 62; refine (HE.out _ HA.out).mono ?_; rintro e w' ⟨rfl, hf2⟩; have HF2 := Lib.hid hf2; clear hf2)
            go_ret
            exact ⟨ret_bool H.out.symm, Fr.trans (Fr.trans (Fr.trans HF.out HFr.out) HA.out) HF2.out⟩
          · rw [hb] at HE
            have HB := Lib.hid hb
            clear hb
            generalize X.getD p la0 = l at *
            have HA : Hid (Fr wr (wr.alloc (.cells #[.bool l.n.u, .int .i64 l.n.p, .bool l.n.d, .slice l.a l.n.W.length l.c] 50))) := Lib.hid (Fr.alloc _ _)
            go_wp2_with (go_at_call 62; refine (HE.out _ HA.out).mono ?_; rintro e w' ⟨rfl, hf2⟩; have HF2 := Lib.hid hf2; clear hf2)
            go_roundw
            case rel => exact ⟨p + 1, by omega, by go_num, fun j hj => by
              rcases Nat.lt_succ_iff_lt_or_eq.1 hj with h | h
              · exact HO.out j h
              · rw [h]; exact HB.out, Fr.trans (Fr.trans HFr.out HA.out) HF2.out⟩
            case measure => simp [intOf]; omega
        · have hge : ¬ (p : Int) < 4 := by omega
          have H := Lib.hid (okLns_of (L := lns X) (p := p) HO.out (by rw [lns_len, HXL.out]; omega))
          clear hok hfr
          go_wp2
          go_ret
          exact ⟨ret_bool H.out.symm, Fr.trans HF.out HFr.out⟩
    · have H := hR false (by rw [hE.out, h1, decide_eq_false h2]; rfl)
      rw [H.out]
      have h3 : ((X.length : Int) != 4) = true := by simp; omega
      clear H h1 hE hR h2
      go_enter Try.func28, Try.ntmps28
      go_wp2_with fail
      generalize (w.alloc (.cells #[.slice aM M.length cM, .slice aL X.length cL] 25)) = u0 at *
      have HQ := Lib.hid (HP.out u0 HS.out.M (by omega))
      obtain ⟨_, c0, c1, _, _⟩ := HX.out
      go_wp2_with (go_at_call 52; refine HQ.out.mono ?_; rintro e w' ⟨rfl, rfl⟩)
      go_ret
      exact ⟨rfl, HF.out⟩

set_option maxRecDepth 100000 in
set_option maxHeartbeats 4000000 in
theorem spec_ChcOk (M : List Int) (X : List La) (aM aL : Option Addr) (cM cL : Nat) (w : World) (h : SrcC w M X aM aL) (hf : FewC M X) :
    Calls Try.prog 26 #[caV aM aL M X cM cL] w fun e w' => e = .returned (.bool (okC ⟨M, lns X⟩)) ∧ Fr w w' := by
  have F0 : Fr w (w.alloc (.cells #[.slice aM M.length cM, .slice aL X.length cL] 25)) := Fr.alloc _ _
  have HF := Lib.hid F0
  have HX := Lib.hid (Box2.new w (.slice aM M.length cM) (.slice aL X.length cL) 25 _ rfl)
  have HS := Lib.hid (h.fr F0)
  have hR : ∀ b, okC ⟨M, lns X⟩ = b → Hid (okC ⟨M, lns X⟩ = b) := fun b h => Lib.hid h
  have hE := Lib.hid (okC_eq M X)
  have P1 := spec_l4Words M aM cM 256
  have e1 : (M.all okB && decide ((M.length : Int) = 256)) = wordsB M 256 := words_eq M 256
  rw [e1] at P1
  have hfM := hf.M
  have HFew := Lib.hid hf
  clear F0 h e1 hf
  cases h1 : wordsB M 256
  · have H := hR false (by rw [hE.out, h1]; rfl)
    rw [H.out]
    rw [h1] at P1
    have HP := Lib.hid P1
    clear P1 H h1 hE hR
    go_enter Try.func26, Try.ntmps26
    go_wp2_with fail
    generalize (w.alloc (.cells #[.slice aM M.length cM, .slice aL X.length cL] 25)) = u0 at *
    have HQ := Lib.hid (HP.out u0 HS.out.M (by omega))
    obtain ⟨_, c0, c1, _, _⟩ := HX.out
    go_wp2_with (go_at_call 51; refine HQ.out.mono ?_; rintro e w' ⟨rfl, rfl⟩)
    go_ret
    exact ⟨rfl, HF.out⟩
  · obtain ⟨hMa, hMl⟩ := wordsB_true h1
    rw [h1] at P1
    have HP := Lib.hid P1
    have HML := Lib.hid hMl
    clear P1 hMa hMl
    by_cases h2 : X.length = 4
    · have H : Hid (okC ⟨M, lns X⟩ = okLns M (lns X)) := Lib.hid (by rw [hE.out, h1, decide_eq_true h2]; rfl)
      rw [H.out]
      have HXL := Lib.hid h2
      clear H h1 hE hR
      unfold caV
      rw [h2] at HX HF HS ⊢
      go_enter Try.func26, Try.ntmps26
      go_wp2_with fail
      generalize (w.alloc (.cells #[.slice aM M.length cM, .slice aL 4 cL] 25)) = u0 at *
      have HQ := Lib.hid (HP.out u0 HS.out.M (by omega))
      obtain ⟨_, c0, c1, _, _⟩ := HX.out
      go_upto_region 4 with (go_at_call 51; refine HQ.out.mono ?_; rintro e w' ⟨rfl, rfl⟩)
      clear HQ HP c0 c1
      go_loopw [3] (fun i wr => ∃ k : Nat, k ≤ 4 ∧ i = .int .i64 k ∧ (∀ j, j < k → okLn M (j : Int) ((lns X).getD j ln0) = true) ∧ Fr u0 wr) (fun i _ => 4 - (intOf i).toNat)
      case atStart => exact ⟨0, by omega, rfl, fun j hj => absurd hj (Nat.not_lt_zero _), Below.refl _ _⟩
      case round =>
        obtain ⟨k, hk, rfl, hok, hfr⟩ := hrel
        have HO := Lib.hid hok
        have HFr := Lib.hid hfr
        by_cases hlt : k < 4
        · have hS := HS.out.fr hfr
          have HSr := Lib.hid hS
          have HXr := Lib.hid (HX.out.fr hfr)
          obtain ⟨g, o, rfl, hgl, hrg⟩ := hS.L.at0 (by rw [HXL.out]; decide)
          obtain ⟨d0, d1, d2, d3⟩ := line_at hrg k (by rw [HXL.out]; exact hlt)
          have hwd := hS.L.wd k (by rw [HXL.out]; exact hlt)
          have hwl := HFew.out.W k (by rw [HXL.out]; exact hlt)
          have HN := Lib.hid (lns_get X k)
          obtain ⟨_, c0, c1, _, _⟩ := HX.out.fr hfr
          clear hS hrg hok hfr
          have hlt' : (k : Int) < 4 := by omega
          have hk0 : (0 : Int) ≤ (k : Int) := Int.natCast_nonneg _
          generalize X.getD k la0 = l at *
          obtain ⟨⟨u, p, d, W⟩, ao, c⟩ := l
          unfold WSrc at hwd
          simp only at d0 d1 d2 d3 hwd hwl HN
          cases u
          · clear hwd
            cases d
            · by_cases h1 : p = 0
              · by_cases h2 : W.length = 0
                · have HB := Lib.hid (show okLn M (k : Int) ⟨false, p, false, W⟩ = true by rw [okLn_free_eq]; simp only [h1, h2]; rfl)
                  have h1' : (p != 0) = false := by simpa using h1
                  have h2' : ((W.length : Int) != 0) = false := by simp [h2]
                  clear h1 h2
                  have HA : Hid (Fr wr (wr.alloc (.cells #[.bool false, .int .i64 p, .bool false, .slice ao W.length c] 50))) := Lib.hid (Fr.alloc _ _)
                  have HY : Hid (Box4 (wr.alloc (.cells #[.bool false, .int .i64 p, .bool false, .slice ao W.length c] 50)) wr.heap.size (.bool false) (.int .i64 p) (.bool false) (.slice ao W.length c)) := Lib.hid (Box4.new _ _ _ _ _ _ _ rfl)
                  go_wp2
                  go_roundw
                  case rel => exact ⟨k + 1, by omega, by go_num, fun j hj => by
                    rcases Nat.lt_succ_iff_lt_or_eq.1 hj with h | h
                    · exact HO.out j h
                    · rw [h, HN.out]; exact HB.out, Fr.trans HFr.out HA.out⟩
                  case measure => simp [intOf]; omega
                · have H := Lib.hid (okLns_not (M := M) (L := lns X) (p := k) (by rw [lns_len, HXL.out]; exact hlt) (by rw [HN.out]; exact (by rw [okLn_free_eq, decide_eq_false h2]; simp)))
                  have h1' : (p != 0) = false := by simpa using h1
                  have h2' : ((W.length : Int) != 0) = true := by simp only [bne_iff_ne, ne_eq]; omega
                  clear h1 h2
                  have HA : Hid (Fr wr (wr.alloc (.cells #[.bool false, .int .i64 p, .bool false, .slice ao W.length c] 50))) := Lib.hid (Fr.alloc _ _)
                  have HY : Hid (Box4 (wr.alloc (.cells #[.bool false, .int .i64 p, .bool false, .slice ao W.length c] 50)) wr.heap.size (.bool false) (.int .i64 p) (.bool false) (.slice ao W.length c)) := Lib.hid (Box4.new _ _ _ _ _ _ _ rfl)
                  go_wp2
                  go_ret
                  exact ⟨ret_bool H.out.symm, Fr.trans (Fr.trans HF.out HFr.out) HA.out⟩
              · have H := Lib.hid (okLns_not (M := M) (L := lns X) (p := k) (by rw [lns_len, HXL.out]; exact hlt) (by rw [HN.out]; exact (by rw [okLn_free_eq, decide_eq_false h1]; rfl)))
                have h1' : (p != 0) = true := by simpa using h1
                clear h1
                have HA : Hid (Fr wr (wr.alloc (.cells #[.bool false, .int .i64 p, .bool false, .slice ao W.length c] 50))) := Lib.hid (Fr.alloc _ _)
                have HY : Hid (Box4 (wr.alloc (.cells #[.bool false, .int .i64 p, .bool false, .slice ao W.length c] 50)) wr.heap.size (.bool false) (.int .i64 p) (.bool false) (.slice ao W.length c)) := Lib.hid (Box4.new _ _ _ _ _ _ _ rfl)
                go_wp2
                go_ret
                exact ⟨ret_bool H.out.symm, Fr.trans (Fr.trans HF.out HFr.out) HA.out⟩
            · by_cases h1 : p = 0
              · have H := Lib.hid (okLns_not (M := M) (L := lns X) (p := k) (by rw [lns_len, HXL.out]; exact hlt) (by rw [HN.out]; exact (by rw [okLn_free_eq]; simp)))
                have h1' : (p != 0) = false := by simpa using h1
                clear h1
                have HA : Hid (Fr wr (wr.alloc (.cells #[.bool false, .int .i64 p, .bool true, .slice ao W.length c] 50))) := Lib.hid (Fr.alloc _ _)
                have HY : Hid (Box4 (wr.alloc (.cells #[.bool false, .int .i64 p, .bool true, .slice ao W.length c] 50)) wr.heap.size (.bool false) (.int .i64 p) (.bool true) (.slice ao W.length c)) := Lib.hid (Box4.new _ _ _ _ _ _ _ rfl)
                go_wp2
                go_ret
                exact ⟨ret_bool H.out.symm, Fr.trans (Fr.trans HF.out HFr.out) HA.out⟩
              · have H := Lib.hid (okLns_not (M := M) (L := lns X) (p := k) (by rw [lns_len, HXL.out]; exact hlt) (by rw [HN.out]; exact (by rw [okLn_free_eq, decide_eq_false h1]; rfl)))
                have h1' : (p != 0) = true := by simpa using h1
                clear h1
                have HA : Hid (Fr wr (wr.alloc (.cells #[.bool false, .int .i64 p, .bool true, .slice ao W.length c] 50))) := Lib.hid (Fr.alloc _ _)
                have HY : Hid (Box4 (wr.alloc (.cells #[.bool false, .int .i64 p, .bool true, .slice ao W.length c] 50)) wr.heap.size (.bool false) (.int .i64 p) (.bool true) (.slice ao W.length c)) := Lib.hid (Box4.new _ _ _ _ _ _ _ rfl)
                go_wp2
                go_ret
                exact ⟨ret_bool H.out.symm, Fr.trans (Fr.trans HF.out HFr.out) HA.out⟩
          · have P1 := fun w => spec_l1In p 0 252 w
            have P4 := fun v (f : Fr wr v) => spec_l4Words W ao c 4 v (hwd.fr f) (by omega)
            have e4 : (W.all okB && decide ((W.length : Int) = 4)) = wordsB W 4 := words_eq W 4
            rw [e4] at P4
            by_cases h1 : 0 ≤ p ∧ p ≤ 252
            · obtain ⟨p0, p1⟩ := h1
              rw [decide_eq_true (show 0 ≤ p ∧ p ≤ 252 from ⟨p0, p1⟩)] at P1
              have HP1 := Lib.hid P1
              have P3 := fun w => spec_l7Slot p w p0 (by omega)
              clear P1
              by_cases h2 : p % 4 = 0
              · by_cases h3 : p / 4 % 4 = (k : Int)
                · cases h4 : wordsB W 4
                  · have H := Lib.hid (okLns_not (M := M) (L := lns X) (p := k) (by rw [lns_len, HXL.out]; exact hlt) (by rw [HN.out]; exact (by simp only [okLn, if_true]; rw [h4]; simp)))
                    have h2' : (p % 4 != 0) = false := by simpa using h2
                    rw [h3] at P3
                    rw [h4] at P4
                    have HP3 := Lib.hid P3
                    have HP4 := Lib.hid P4
                    clear P3 P4 h2 h3 h4 e4
                    have HA : Hid (Fr wr (wr.alloc (.cells #[.bool true, .int .i64 p, .bool d, .slice ao W.length c] 50))) := Lib.hid (Fr.alloc _ _)
                    have HY : Hid (Box4 (wr.alloc (.cells #[.bool true, .int .i64 p, .bool d, .slice ao W.length c] 50)) wr.heap.size (.bool true) (.int .i64 p) (.bool d) (.slice ao W.length c)) := Lib.hid (Box4.new _ _ _ _ _ _ _ rfl)
                    have HQ4 := Lib.hid (HP4.out _ HA.out)
                    go_wp2_with (first | (go_at_call 59; refine (HP1.out _).mono ?_; rintro e w' ⟨rfl, rfl⟩) | (go_at_call 60; refine (HP3.out _).mono ?_; rintro e w' ⟨rfl, rfl⟩) | (go_at_call 51; refine HQ4.out.mono ?_; rintro e w' ⟨rfl, rfl⟩))
                    go_ret
                    exact ⟨ret_bool H.out.symm, Fr.trans (Fr.trans HF.out HFr.out) HA.out⟩
                  · have h2' : (p % 4 != 0) = false := by simpa using h2
                    have hq : 0 ≤ p ∧ p ≤ 252 ∧ p % 4 = 0 ∧ p / 4 % 4 = (k : Int) := ⟨p0, p1, h2, h3⟩
                    have HE : Hid (okLn M (k : Int) ⟨true, p, d, W⟩ = (d || sameB M W p.toNat)) := Lib.hid (by simp only [okLn, if_true, h4, decide_eq_true hq, Bool.true_and])
                    have HWL := Lib.hid (wordsB_true h4).2
                    rw [h3] at P3
                    rw [h4] at P4
                    have HP3 := Lib.hid P3
                    have HP4 := Lib.hid P4
                    have HWD := Lib.hid hwd
                    clear P3 P4 h2 h3 h4 e4 hq hwd
                    obtain ⟨N, rfl⟩ := Int.eq_ofNat_of_zero_le p0
                    have hN : N ≤ 252 := by omega
                    rw [Int.toNat_natCast] at HE
                    have HA : Hid (Fr wr (wr.alloc (.cells #[.bool true, .int .i64 (N : Int), .bool d, .slice ao W.length c] 50))) := Lib.hid (Fr.alloc _ _)
                    have HY : Hid (Box4 (wr.alloc (.cells #[.bool true, .int .i64 (N : Int), .bool d, .slice ao W.length c] 50)) wr.heap.size (.bool true) (.int .i64 (N : Int)) (.bool d) (.slice ao W.length c)) := Lib.hid (Box4.new _ _ _ _ _ _ _ rfl)
                    have HQ4 := Lib.hid (HP4.out _ HA.out)
                    go_upto_region 13 with (first | (go_at_call 59; refine (HP1.out _).mono ?_; rintro e w' ⟨rfl, rfl⟩) | (go_at_call 60; refine (HP3.out _).mono ?_; rintro e w' ⟨rfl, rfl⟩) | (go_at_call 51; refine HQ4.out.mono ?_; rintro e w' ⟨rfl, rfl⟩))
                    generalize (wr.alloc (.cells #[.bool true, .int .i64 (N : Int), .bool d, .slice ao W.length c] 50)) = u2 at *
                    have hX2 := HXr.out.fr HA.out
                    have hS2 := HSr.out.fr HA.out
                    obtain ⟨gM, oM, rfl, hgM, kM⟩ := hS2.M (by rw [HML.out]; decide)
                    have hW2 := HWD.out.fr HA.out
                    obtain ⟨gW, oW, rfl, hgW, kW⟩ := hW2 (by rw [HWL.out]; decide)
                    have KM : Hid (∀ v, Fr u2 v → ∀ i, i < 256 → v.cell? ⟨gM, oM + i, none⟩ = some (.int .i64 (M.getD i 0))) := Lib.hid (fun v f i hi => by rw [f.cell hgM]; exact kM i (by rw [HML.out]; exact hi))
                    have KW : Hid (∀ v, Fr u2 v → ∀ i, i < 4 → v.cell? ⟨gW, oW + i, none⟩ = some (.int .i64 (W.getD i 0))) := Lib.hid (fun v f i hi => by rw [f.cell hgW]; exact kW i (by rw [HWL.out]; exact hi))
                    have HX2 := Lib.hid hX2
                    clear hX2 hS2 hW2 kM kW HQ4 HP3 HP4 HP1 c0 c1 d0 d1 d2 d3 h2'
                    have hl4 : Hid ((W.length : Int) = 4) := Lib.hid (by have := HWL.out; omega)
                    have hM4 : Hid ((M.length : Int) = 256) := Lib.hid (by have := HML.out; omega)
                    obtain ⟨w1, hw1⟩ : ∃ w1, w1 = wr := ⟨_, rfl⟩
                    subst hw1
                    go_loopw [5] (fun i wr => ∃ j : Nat, j ≤ 4 ∧ i = .int .i64 j ∧ (d = true ∨ ∀ i, i < j → W.getD i 0 = M.getD (N + i) 0) ∧ Fr u2 wr) (fun i _ => 4 - (intOf i).toNat)
                    case atStart => exact ⟨0, by omega, rfl, .inr fun i hi => absurd hi (Nat.not_lt_zero _), Below.refl _ _⟩
                    case round =>
                      obtain ⟨j, hj, rfl, hd, hfv⟩ := hrel
                      have HD := Lib.hid hd
                      have HV := Lib.hid hfv
                      obtain ⟨_, x0, x1, _, _⟩ := HX2.out.fr hfv
                      obtain ⟨_, y0, y1, y2, y3, _, _, _, _⟩ := HY.out.fr hfv
                      clear hd hfv
                      by_cases hjl : j < 4
                      · have hj4 : (j : Int) < 4 := by omega
                        cases d
                        · have kw := KW.out wr HV.out j hjl
                          have km := KM.out wr HV.out (N + j) (by omega)
                          have hjw : (j : Int) < (W.length : Int) := by rw [hl4.out]; omega
                          have hjm : ((N : Int) + (j : Int)) < (M.length : Int) := by rw [hM4.out]; omega
                          have hj0 : (0 : Int) ≤ (j : Int) := Int.natCast_nonneg _
                          have hN0 : (0 : Int) ≤ (N : Int) + (j : Int) := by omega
                          have hw1 : IntKind.i64.wrap ((N : Int) + (j : Int)) = (N : Int) + (j : Int) := IntWalk.i64_in _ (by omega)
                          have hw2 : ((N : Int) + (j : Int)).toNat = N + j := by omega
                          by_cases e : W.getD j 0 = M.getD (N + j) 0
                          · rw [← e] at km
                            have HEq := Lib.hid e
                            clear e
                            generalize W.getD j 0 = z at kw km
                            go_wp2_with fail
                            go_quiet (fail)
                            clear hw1 hw2
                            go_wp2
                            go_roundw
                            case rel => exact ⟨j + 1, by omega, by go_num, .inr fun i hi => by
                              rcases Nat.lt_succ_iff_lt_or_eq.1 hi with h | h
                              · rcases HD.out with hd | hd
                                · cases hd
                                · exact hd i h
                              · rw [h]; exact HEq.out, fr_drewN HV.out _⟩
                            case measure => simp [intOf]; omega
                          · have H := Lib.hid (okLns_not (M := M) (L := lns X) (p := k) (by rw [lns_len, HXL.out]; exact hlt) (by rw [HN.out, HE.out]; exact Bool.eq_false_iff.2 fun h => e ((sameB_iff _ _ _).1 h j hjl)))
                            have e' : (W.getD j 0 != M.getD (N + j) 0) = true := by simpa using e
                            clear e
                            generalize W.getD j 0 = z at kw e'
                            generalize M.getD (N + j) 0 = z' at km e'
                            go_wp2_with fail
                            go_quiet (fail)
                            clear hw1 hw2
                            go_wp2
                            go_ret
                            exact ⟨ret_bool H.out.symm, fr_drewN (Fr.trans (Fr.trans (Fr.trans HF.out HFr.out) HA.out) HV.out) _⟩
                        · go_wp2_with fail
                          go_quiet (fail)
                          go_wp2
                          go_roundw
                          case rel => exact ⟨j + 1, by omega, by go_num, .inl (by first | trivial | rfl), fr_drewN HV.out _⟩
                          case measure => simp [intOf]; omega
                      · have hge : ¬ (j : Int) < 4 := by omega
                        have HB : Hid (okLn M (k : Int) ⟨true, (N : Int), d, W⟩ = true) := Lib.hid (by
                          rw [HE.out, Bool.or_eq_true]
                          rcases HD.out with hd | hd
                          · exact .inl hd
                          · exact .inr ((sameB_iff _ _ _).2 fun i hi => hd i (by omega)))
                        go_wp2
                        go_roundw
                        case rel => exact ⟨k + 1, by omega, by go_num, fun j hj => by
                          rcases Nat.lt_succ_iff_lt_or_eq.1 hj with h | h
                          · exact HO.out j h
                          · rw [h, HN.out]; exact HB.out, Fr.trans (Fr.trans HFr.out HA.out) HV.out⟩
                        case measure => simp [intOf]; omega
                · have H := Lib.hid (okLns_not (M := M) (L := lns X) (p := k) (by rw [lns_len, HXL.out]; exact hlt) (by rw [HN.out]; exact (by simp only [okLn, if_true]; rw [decide_eq_false (fun h => h3 h.2.2.2)]; rfl)))
                  have h2' : (p % 4 != 0) = false := by simpa using h2
                  have h3' : (p / 4 % 4 != (k : Int)) = true := by simpa using h3
                  have HP3 := Lib.hid P3
                  clear P3 P4 h2 h3 e4
                  have HA : Hid (Fr wr (wr.alloc (.cells #[.bool true, .int .i64 p, .bool d, .slice ao W.length c] 50))) := Lib.hid (Fr.alloc _ _)
                  have HY : Hid (Box4 (wr.alloc (.cells #[.bool true, .int .i64 p, .bool d, .slice ao W.length c] 50)) wr.heap.size (.bool true) (.int .i64 p) (.bool d) (.slice ao W.length c)) := Lib.hid (Box4.new _ _ _ _ _ _ _ rfl)
                  go_wp2_with (first | (go_at_call 59; refine (HP1.out _).mono ?_; rintro e w' ⟨rfl, rfl⟩) | (go_at_call 60; refine (HP3.out _).mono ?_; rintro e w' ⟨rfl, rfl⟩))
                  go_ret
                  exact ⟨ret_bool H.out.symm, Fr.trans (Fr.trans HF.out HFr.out) HA.out⟩
              · have H := Lib.hid (okLns_not (M := M) (L := lns X) (p := k) (by rw [lns_len, HXL.out]; exact hlt) (by rw [HN.out]; exact (by simp only [okLn, if_true]; rw [decide_eq_false (fun h => h2 h.2.2.1)]; rfl)))
                have h2' : (p % 4 != 0) = true := by simpa using h2
                clear P3 P4 h2 e4
                have HA : Hid (Fr wr (wr.alloc (.cells #[.bool true, .int .i64 p, .bool d, .slice ao W.length c] 50))) := Lib.hid (Fr.alloc _ _)
                have HY : Hid (Box4 (wr.alloc (.cells #[.bool true, .int .i64 p, .bool d, .slice ao W.length c] 50)) wr.heap.size (.bool true) (.int .i64 p) (.bool d) (.slice ao W.length c)) := Lib.hid (Box4.new _ _ _ _ _ _ _ rfl)
                go_wp2_with (first | (go_at_call 59; refine (HP1.out _).mono ?_; rintro e w' ⟨rfl, rfl⟩))
                go_ret
                exact ⟨ret_bool H.out.symm, Fr.trans (Fr.trans HF.out HFr.out) HA.out⟩
            · have H := Lib.hid (okLns_not (M := M) (L := lns X) (p := k) (by rw [lns_len, HXL.out]; exact hlt) (by rw [HN.out]; exact (by simp only [okLn, if_true]; rw [decide_eq_false (fun h => h1 ⟨h.1, h.2.1⟩)]; rfl)))
              rw [decide_eq_false h1] at P1
              have HP1 := Lib.hid P1
              clear P1 P4 h1 e4
              have HA : Hid (Fr wr (wr.alloc (.cells #[.bool true, .int .i64 p, .bool d, .slice ao W.length c] 50))) := Lib.hid (Fr.alloc _ _)
              have HY : Hid (Box4 (wr.alloc (.cells #[.bool true, .int .i64 p, .bool d, .slice ao W.length c] 50)) wr.heap.size (.bool true) (.int .i64 p) (.bool d) (.slice ao W.length c)) := Lib.hid (Box4.new _ _ _ _ _ _ _ rfl)
              go_wp2_with (first | (go_at_call 59; refine (HP1.out _).mono ?_; rintro e w' ⟨rfl, rfl⟩))
              go_ret
              exact ⟨ret_bool H.out.symm, Fr.trans (Fr.trans HF.out HFr.out) HA.out⟩
        · have hge : ¬ (k : Int) < 4 := by omega
          have H := Lib.hid (okLns_of (M := M) (L := lns X) (p := k) HO.out (by rw [lns_len, HXL.out]; omega))
          obtain ⟨_, c0, c1, _, _⟩ := HX.out.fr hfr
          clear hok hfr
          go_wp2
          go_ret
          exact ⟨ret_bool H.out.symm, Fr.trans HF.out HFr.out⟩
    · have H := hR false (by rw [hE.out, h1, decide_eq_false h2]; rfl)
      rw [H.out]
      have h3 : ((X.length : Int) != 4) = true := by simp; omega
      clear H h1 hE hR h2
      go_enter Try.func26, Try.ntmps26
      go_wp2_with fail
      generalize (w.alloc (.cells #[.slice aM M.length cM, .slice aL X.length cL] 25)) = u0 at *
      have HQ := Lib.hid (HP.out u0 HS.out.M (by omega))
      obtain ⟨_, c0, c1, _, _⟩ := HX.out
      go_wp2_with (go_at_call 51; refine HQ.out.mono ?_; rintro e w' ⟨rfl, rfl⟩)
      go_ret
      exact ⟨rfl, HF.out⟩

end Go.Proofs.Ytiijhklkelaogaa
