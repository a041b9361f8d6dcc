/- The program's NamOk. -/
import Derived.Test.YtddllgjieccikaaN3
import Derived.Test.YtddllgjieccikaaGu1
import Derived.Test.YtddllgjieccikaaRegion6
namespace Go.Proofs.Ytddllgjieccikaa
open Go.RowKit
set_option linter.unusedVariables false
set_option linter.unusedSimpArgs false
/-- Which places were seen. -/
def seenL (l : List Int) : List Bool := (List.range 20).map fun (i : Nat) => l.contains (i : Int)
theorem seenL_len (l : List Int) : (seenL l).length = 20 := by simp [seenL]
theorem seenL_at (l : List Int) (i : Nat) (h : i < 20) : (seenL l).getD i false = l.contains (i : Int) := by simp [seenL, List.getD_eq_getElem?_getD, h]
theorem seenL_nil : seenL [] = List.replicate 20 false := by decide
theorem seenL_set (l : List Int) (p : Nat) (hp : p < 20) : (seenL l).set p true = seenL (l ++ [(p : Int)]) := by
  apply List.ext_getElem
  · simp [seenL]
  · intro i h1 h2
    rw [List.getElem_set]
    have h1' : i < 20 := by simpa [seenL] using h1
    simp only [seenL, List.getElem_map, List.getElem_range]
    by_cases e : p = i
    · subst e; simp
    · rw [if_neg e]
      rw [Bool.eq_iff_iff]
      simp
      omega
theorem info_b20 : (Try.prog.info? 62).map (·.size) = some 20 := by kernel_rfl
def seenV (l : List Int) : List Value := (seenL l).map Value.bool
theorem seen_one (l : List Int) : ∀ v, v ∈ seenV l → v.oneCell' = true := fun v hv => by
  obtain ⟨_, _, rfl⟩ := List.mem_map.1 hv
  rfl
theorem seen_blk (u : World) (t : TypeId) (l : List Int) : RoB (u.alloc (.cells (seenV l).toArray t)) u.heap.size (seenL l) := by
  refine ⟨by simp, fun i hi => ?_, fun i hi => (alloc_at u _ t _ rfl i).2⟩
  rw [(alloc_at u _ t _ rfl i).1]
  simp [seenV, hi, List.getD_eq_getElem?_getD]
theorem ap_bad {l A B : List Int} {z : Int} (e : l = A ++ z :: B) (h : phyB z = false ∨ A.contains z = true) : apB l = false := by
  refine decide_eq_false fun hk => ?_
  rw [e, show A ++ z :: B = (A ++ [z]) ++ B by simp] at hk
  have h1 := (okA_snoc.1 (okA_pre hk)).2
  rcases h with h | h
  · rw [h] at h1; exact absurd h1.1 (by decide)
  · exact h1.2 (List.contains_iff_mem.1 h)
theorem split_at (L : List Int) (p : Nat) (hp : p < L.length) : L = L.take p ++ L.getD p 0 :: L.drop (p + 1) := by
  rw [List.getD_eq_getElem?_getD, List.getElem?_eq_getElem hp, Option.getD_some, List.getElem_cons_drop, List.take_append_drop]
theorem split_M (M F : List Int) (p : Nat) (hp : p < M.length) : M ++ F = ([] ++ M.take p) ++ M.getD p 0 :: (M.drop (p + 1) ++ F) := by
  rw [List.nil_append, ← List.cons_append, ← List.append_assoc, ← split_at M p hp]
theorem split_F (M F : List Int) (p : Nat) (hp : p < F.length) : M ++ F = (M ++ F.take p) ++ F.getD p 0 :: F.drop (p + 1) := by
  rw [List.append_assoc, ← split_at F p hp]
set_option maxRecDepth 8000 in
set_option maxHeartbeats 4000000 in
theorem impl_areApart (M F : List Int) (aM aF : Option Addr) (cM cF g : Nat) (w : World) (hM : Src w M.length (ivl M) aM) (hF : Src w F.length (ivl F) aF) (hg : g < w.heap.size) (h0 : w.cell? ⟨g, 0, none⟩ = some (.slice aM M.length cM)) (h1 : w.cell? ⟨g, 1, none⟩ = some (.slice aF F.length cF)) (fM : M.length ≤ 2000000) (fF : F.length ≤ 2000000) :
    Calls Try.prog 64 #[.slice (some ⟨g, 0, none⟩) 2 2] w fun e w' => e = .returned (.bool (apB (M ++ F))) ∧ Fr w w' := by
  have HM := Lib.hid hM
  have HF := Lib.hid hF
  have H0 := Lib.hid h0
  have H1 := Lib.hid h1
  have HG := Lib.hid hg
  have HB := Lib.hid (seen_blk w 62 [])
  have F1 := Lib.hid (Fr.alloc w (.cells (seenV []).toArray 62))
  clear hM hF h0 h1 hg
  go_enter Try.func64, Try.ntmps64
  go_wp2_with (refine wpList_store_new rfl 62 _ _ rfl w w.heap.size rfl _ (seenV []).toArray rfl rfl info_b20 rfl (all_oneCell_toArray (seen_one [])) ?_)
  generalize (w.alloc (.cells (seenV []).toArray 62)) = u0 at *
  obtain ⟨g0, hgg⟩ : ∃ g0, w.heap.size = g0 := ⟨_, rfl⟩
  have hg0 : w.heap.size ≤ g0 := by omega
  rw [hgg] at HB ⊢
  clear hgg
  go_loopw [11] (fun i wr => ∃ q : Nat, q ≤ 2 ∧ i = .int .i64 q ∧ okA (if q = 0 then [] else if q = 1 then M else M ++ F) ∧ RoB wr g0 (seenL (if q = 0 then [] else if q = 1 then M else M ++ F)) ∧ Fr w wr) (fun i _ => 2 - (intOf i).toNat)
  case atStart => exact ⟨0, by omega, rfl, okA_nil, HB.out, F1.out⟩
  case round =>
    obtain ⟨q, hq, rfl, hA, hR, hW⟩ := hrel
    have HA := Lib.hid hA
    have HR := Lib.hid hR
    have HW := Lib.hid hW
    have e0 : wr.cell? ⟨g, 0, none⟩ = _ := (hW.cell (show g < w.heap.size from HG.out)).trans H0.out
    have e1 : wr.cell? ⟨g, 1, none⟩ = _ := (hW.cell (show g < w.heap.size from HG.out)).trans H1.out
    clear hA hR hW HB
    rcases q with _ | _ | _ | q
    · simp only [if_true] at HA HR
      rw [show ((0 : Nat) : Int) = 0 from rfl]
      go_wp2_with fail
      go_loopw [17] (fun i wr => ∃ p : Nat, p ≤ M.length ∧ i = .int .i64 p ∧ okA ([] ++ M.take p) ∧ RoB wr g0 (seenL ([] ++ M.take p)) ∧ Fr w wr) (fun i _ => M.length - (intOf i).toNat)
      case atStart => exact ⟨0, Nat.zero_le _, rfl, by simpa using HA.out, by simpa using HR.out, HW.out⟩
      case round =>
        obtain ⟨p, hp, rfl, hA', hR', hW'⟩ := hrel
        have IA := Lib.hid hA'
        have IR := Lib.hid hR'
        have IW := Lib.hid hW'
        clear hA' hR' hW'
        by_cases hlt : p < M.length
        · have hlt' : (p : Int) < (M.length : Int) := by omega
          obtain ⟨gL, oL, hao, hgl, hc⟩ := HM.out (by omega)
          have d0 : wr.cell? ⟨gL, oL + p, none⟩ = some (.int .i64 (M.getD p 0)) := by rw [IW.out.cell hgl]; exact hc p hlt
          have HE := Lib.hid (show M ++ F = ([] ++ M.take p) ++ M.getD p 0 :: (M.drop (p + 1) ++ F) from split_M M F p hlt)
          have HN := Lib.hid (show [] ++ M.take (p + 1) = ([] ++ M.take p) ++ [M.getD p 0] from by rw [take_snoc M p hlt, List.append_assoc])
          clear hc
          subst hao
          generalize M.getD p 0 = z at *
          cases hk : phyB z
          · have HB := Lib.hid (ap_bad HE.out (.inl hk))
            have X1 := Lib.hid (fun (u : World) => impl_isPhy z u)
            rw [hk] at X1
            clear hk
            go_wp2_with (go_at_call 70; refine (X1.out _).mono ?_; rintro e w' ⟨rfl, rfl⟩)
            go_ret
            exact ⟨by rw [HB.out]; rfl, IW.out⟩
          · have X1 := Lib.hid (fun (u : World) => impl_isPhy z u)
            rw [hk] at X1
            have hzb := phyB_true hk
            have HK := Lib.hid hk
            obtain ⟨k, rfl⟩ : ∃ k : Nat, z = k := ⟨z.toNat, by omega⟩
            have hk20 : k < 20 := by omega
            have d1 := IR.out.cel k (by rw [seenL_len]; exact hk20)
            have d2 := IR.out.fro k (by rw [seenL_len]; exact hk20)
            rw [seenL_at _ _ hk20] at d1
            clear hk hzb
            cases hs : ([] ++ M.take p).contains (k : Int)
            · rw [hs] at d1
              have HA2 := Lib.hid (show okA ([] ++ M.take (p + 1)) from by rw [HN.out]; exact okA_snoc.2 ⟨IA.out, HK.out, has_not.1 hs⟩)
              have HR2 := Lib.hid (show RoB (wr.setCell ⟨g0, k, none⟩ (.bool true)) g0 (seenL ([] ++ M.take (p + 1))) from by
                rw [HN.out, ← seenL_set _ k hk20]
                exact IR.out.set k true (by rw [seenL_len]; exact hk20))
              have HW2 := Lib.hid (show Fr w (wr.setCell ⟨g0, k, none⟩ (.bool true)) from fr_new IW.out (show But [g0] wr (wr.setCell ⟨g0, k, none⟩ (.bool true)) from (But.refl _ _).set g0 k _ (.inl (by simp))) hg0)
              clear hs
              go_wp2_with (go_at_call 70; refine (X1.out _).mono ?_; rintro e w' ⟨rfl, rfl⟩)
              go_roundw
              case rel => exact ⟨p + 1, by omega, by go_num, HA2.out, HR2.out, HW2.out⟩
              case measure => simp [intOf]; omega
            · rw [hs] at d1
              have HB := Lib.hid (ap_bad HE.out (.inr hs))
              clear hs
              go_wp2_with (go_at_call 70; refine (X1.out _).mono ?_; rintro e w' ⟨rfl, rfl⟩)
              go_ret
              exact ⟨by rw [HB.out]; rfl, IW.out⟩
        · have hge : ¬ (p : Int) < (M.length : Int) := by omega
          have e : M.take p = M := List.take_of_length_le (by omega)
          have JA := Lib.hid IA.out
          have JR := Lib.hid IR.out
          rw [e] at JA JR
          clear e IA IR
          go_wp2_with fail
          go_roundw
          case rel => exact ⟨1, by omega, by go_num, by simpa using JA.out, by simpa using JR.out, IW.out⟩
          case measure => simp [intOf]
    · simp only [Nat.zero_add, if_true, Nat.one_ne_zero, if_false] at HA HR
      rw [show ((0 + 1 : Nat) : Int) = 1 from rfl]
      go_wp2_with fail
      go_loopw [17] (fun i wr => ∃ p : Nat, p ≤ F.length ∧ i = .int .i64 p ∧ okA (M ++ F.take p) ∧ RoB wr g0 (seenL (M ++ F.take p)) ∧ Fr w wr) (fun i _ => F.length - (intOf i).toNat)
      case atStart => exact ⟨0, Nat.zero_le _, rfl, by simpa using HA.out, by simpa using HR.out, HW.out⟩
      case round =>
        obtain ⟨p, hp, rfl, hA', hR', hW'⟩ := hrel
        have IA := Lib.hid hA'
        have IR := Lib.hid hR'
        have IW := Lib.hid hW'
        clear hA' hR' hW'
        by_cases hlt : p < F.length
        · have hlt' : (p : Int) < (F.length : Int) := by omega
          obtain ⟨gL, oL, hao, hgl, hc⟩ := HF.out (by omega)
          have d0 : wr.cell? ⟨gL, oL + p, none⟩ = some (.int .i64 (F.getD p 0)) := by rw [IW.out.cell hgl]; exact hc p hlt
          have HE := Lib.hid (show M ++ F = (M ++ F.take p) ++ F.getD p 0 :: F.drop (p + 1) from split_F M F p hlt)
          have HN := Lib.hid (show M ++ F.take (p + 1) = (M ++ F.take p) ++ [F.getD p 0] from by rw [take_snoc F p hlt, List.append_assoc])
          clear hc
          subst hao
          generalize F.getD p 0 = z at *
          cases hk : phyB z
          · have HB := Lib.hid (ap_bad HE.out (.inl hk))
            have X1 := Lib.hid (fun (u : World) => impl_isPhy z u)
            rw [hk] at X1
            clear hk
            go_wp2_with (go_at_call 70; refine (X1.out _).mono ?_; rintro e w' ⟨rfl, rfl⟩)
            go_ret
            exact ⟨by rw [HB.out]; rfl, IW.out⟩
          · have X1 := Lib.hid (fun (u : World) => impl_isPhy z u)
            rw [hk] at X1
            have hzb := phyB_true hk
            have HK := Lib.hid hk
            obtain ⟨k, rfl⟩ : ∃ k : Nat, z = k := ⟨z.toNat, by omega⟩
            have hk20 : k < 20 := by omega
            have d1 := IR.out.cel k (by rw [seenL_len]; exact hk20)
            have d2 := IR.out.fro k (by rw [seenL_len]; exact hk20)
            rw [seenL_at _ _ hk20] at d1
            clear hk hzb
            cases hs : (M ++ F.take p).contains (k : Int)
            · rw [hs] at d1
              have HA2 := Lib.hid (show okA (M ++ F.take (p + 1)) from by rw [HN.out]; exact okA_snoc.2 ⟨IA.out, HK.out, has_not.1 hs⟩)
              have HR2 := Lib.hid (show RoB (wr.setCell ⟨g0, k, none⟩ (.bool true)) g0 (seenL (M ++ F.take (p + 1))) from by
                rw [HN.out, ← seenL_set _ k hk20]
                exact IR.out.set k true (by rw [seenL_len]; exact hk20))
              have HW2 := Lib.hid (show Fr w (wr.setCell ⟨g0, k, none⟩ (.bool true)) from fr_new IW.out (show But [g0] wr (wr.setCell ⟨g0, k, none⟩ (.bool true)) from (But.refl _ _).set g0 k _ (.inl (by simp))) hg0)
              clear hs
              go_wp2_with (go_at_call 70; refine (X1.out _).mono ?_; rintro e w' ⟨rfl, rfl⟩)
              go_roundw
              case rel => exact ⟨p + 1, by omega, by go_num, HA2.out, HR2.out, HW2.out⟩
              case measure => simp [intOf]; omega
            · rw [hs] at d1
              have HB := Lib.hid (ap_bad HE.out (.inr hs))
              clear hs
              go_wp2_with (go_at_call 70; refine (X1.out _).mono ?_; rintro e w' ⟨rfl, rfl⟩)
              go_ret
              exact ⟨by rw [HB.out]; rfl, IW.out⟩
        · have hge : ¬ (p : Int) < (F.length : Int) := by omega
          have e : F.take p = F := List.take_of_length_le (by omega)
          have JA := Lib.hid IA.out
          have JR := Lib.hid IR.out
          rw [e] at JA JR
          clear e IA IR
          go_wp2_with fail
          go_roundw
          case rel => exact ⟨2, by omega, by go_num, by simpa using JA.out, by simpa using JR.out, IW.out⟩
          case measure => simp [intOf]
    · have H := Lib.hid (show apB (M ++ F) = true from decide_eq_true (by simpa using HA.out))
      go_wp2
      go_ret
      exact ⟨by rw [H.out]; rfl, HW.out⟩
    · omega
set_option maxRecDepth 8000 in
set_option maxHeartbeats 4000000 in
theorem impl_NamOk_n1 (M F V : List Int) (H : List Bool) (aM aF aV aH : Option Addr) (cM cF cV cH : Nat) (w : World) (h : SrcN w ⟨M, F, V, H⟩ aM aF aV aH) (hf : Few6 ⟨M, F, V, H⟩) (h1 : ¬ M.length = 8) :
    Calls Try.prog 26 #[.agg #[.slice aM M.length cM, .slice aF F.length cF, .slice aV V.length cV, .slice aH H.length cH]] w fun e w' => e = .returned (.bool false) ∧ Fr w w' := by
  obtain ⟨hM, hF, hV, hH⟩ := h
  obtain ⟨fM, fF, fV, fH⟩ := hf
  simp only at hM hF hV hH fM fF fV fH
  have F1 := Fr.alloc w (.cells #[.slice aM M.length cM, .slice aF F.length cF, .slice aV V.length cV, .slice aH H.length cH] 25)
  have HB := Lib.hid (Box4.new w (.slice aM M.length cM) (.slice aF F.length cF) (.slice aV V.length cV) (.slice aH H.length cH) 25 _ rfl)
  have HF1 := Lib.hid F1
  have hne : ((M.length : Int) != 8) = true := by simp; omega
  clear hM hF hV hH F1 h1
  go_enter Try.func26, Try.ntmps26
  go_wp2_with fail
  go_ret
  exact ⟨rfl, HF1.out⟩
set_option maxRecDepth 8000 in
set_option maxHeartbeats 4000000 in
theorem impl_NamOk_n2 (M F V : List Int) (H : List Bool) (aM aF aV aH : Option Addr) (cM cF cV cH : Nat) (w : World) (h : SrcN w ⟨M, F, V, H⟩ aM aF aV aH) (hf : Few6 ⟨M, F, V, H⟩) (h1 : M.length = 8) (h2 : ¬ H.length = 20) :
    Calls Try.prog 26 #[.agg #[.slice aM M.length cM, .slice aF F.length cF, .slice aV V.length cV, .slice aH H.length cH]] w fun e w' => e = .returned (.bool false) ∧ Fr w w' := by
  obtain ⟨hM, hF, hV, hH⟩ := h
  obtain ⟨fM, fF, fV, fH⟩ := hf
  simp only at hM hF hV hH fM fF fV fH
  have F1 := Fr.alloc w (.cells #[.slice aM M.length cM, .slice aF F.length cF, .slice aV V.length cV, .slice aH H.length cH] 25)
  have HB := Lib.hid (Box4.new w (.slice aM M.length cM) (.slice aF F.length cF) (.slice aV V.length cV) (.slice aH H.length cH) 25 _ rfl)
  have HF1 := Lib.hid F1
  have hne1 : ((M.length : Int) != 8) = false := by simp; omega
  have hne : ((H.length : Int) != 20) = true := by simp; omega
  clear hM hF hV hH F1 h1 h2
  go_enter Try.func26, Try.ntmps26
  go_wp2_with fail
  go_ret
  exact ⟨rfl, HF1.out⟩
set_option maxRecDepth 8000 in
set_option maxHeartbeats 4000000 in
theorem impl_NamOk_n3 (M F V : List Int) (H : List Bool) (aM aF aV aH : Option Addr) (cM cF cV cH : Nat) (w : World) (h : SrcN w ⟨M, F, V, H⟩ aM aF aV aH) (hf : Few6 ⟨M, F, V, H⟩) (h1 : M.length = 8) (h2 : H.length = 20) (h3 : wordsB V 20 = false) :
    Calls Try.prog 26 #[.agg #[.slice aM M.length cM, .slice aF F.length cF, .slice aV V.length cV, .slice aH H.length cH]] w fun e w' => e = .returned (.bool false) ∧ Fr w w' := by
  obtain ⟨hM, hF, hV, hH⟩ := h
  obtain ⟨fM, fF, fV, fH⟩ := hf
  simp only at hM hF hV hH fM fF fV fH
  have F1 := Fr.alloc w (.cells #[.slice aM M.length cM, .slice aF F.length cF, .slice aV V.length cV, .slice aH H.length cH] 25)
  have HB := Lib.hid (Box4.new w (.slice aM M.length cM) (.slice aF F.length cF) (.slice aV V.length cV) (.slice aH H.length cH) 25 _ rfl)
  have E3 := impl_areWords V aV cV 20 _ (hV.fr F1) (by omega)
  rw [show (20 : Int) = ((20 : Nat) : Int) from rfl, words_eq, h3] at E3
  have X3 := Lib.hid E3
  have HF1 := Lib.hid F1
  have hne1 : ((M.length : Int) != 8) = false := by simp; omega
  have hne2 : ((H.length : Int) != 20) = false := by simp; omega
  clear hM hF hV hH F1 h1 h2 h3 E3
  go_enter Try.func26, Try.ntmps26
  go_wp2_with fail
  refine X3.out.mono ?_
  rintro e w' ⟨rfl, rfl⟩
  go_wp2_with fail
  go_ret
  exact ⟨rfl, HF1.out⟩
set_option maxRecDepth 8000 in
set_option maxHeartbeats 4000000 in
theorem impl_NamOk_m (M F V : List Int) (H : List Bool) (aM aF aV aH : Option Addr) (cM cF cV cH : Nat) (w : World) (h : SrcN w ⟨M, F, V, H⟩ aM aF aV aH) (hf : Few6 ⟨M, F, V, H⟩) (h1 : M.length = 8) (h2 : H.length = 20) (h3 : wordsB V 20 = true) (h5 : (M.getD 0 0 == 0) = false) :
    Calls Try.prog 26 #[.agg #[.slice aM M.length cM, .slice aF F.length cF, .slice aV V.length cV, .slice aH H.length cH]] w fun e w' => e = .returned (.bool false) ∧ Fr w w' := by
  obtain ⟨hM, hF, hV, hH⟩ := h
  obtain ⟨fM, fF, fV, fH⟩ := hf
  simp only at hM hF hV hH fM fF fV fH
  have F1 := Fr.alloc w (.cells #[.slice aM M.length cM, .slice aF F.length cF, .slice aV V.length cV, .slice aH H.length cH] 25)
  have HB := Lib.hid (Box4.new w (.slice aM M.length cM) (.slice aF F.length cF) (.slice aV V.length cV) (.slice aH H.length cH) 25 _ rfl)
  have E3 := impl_areWords V aV cV 20 _ (hV.fr F1) (by omega)
  rw [show (20 : Int) = ((20 : Nat) : Int) from rfl, words_eq, h3] at E3
  have X3 := Lib.hid E3
  obtain ⟨hVk, hVl⟩ := wordsB_true h3
  have hne1 : ((M.length : Int) != 8) = false := by simp; omega
  have hne2 : ((H.length : Int) != 20) = false := by simp; omega
  have HSM := Lib.hid hM
  have HSF := Lib.hid hF
  obtain ⟨gM, oM, rfl, lM, kM⟩ := hM (by omega)
  obtain ⟨gV, oV, rfl, lV, kV⟩ := hV (by omega)
  obtain ⟨gH, oH, rfl, lH, kH⟩ := hH (by omega)
  have HF1 := Lib.hid F1
  have d0 : (w.alloc (.cells #[.slice (some ⟨gM, oM, none⟩) M.length cM, .slice aF F.length cF, .slice (some ⟨gV, oV, none⟩) V.length cV, .slice (some ⟨gH, oH, none⟩) H.length cH] 25)).cell? ⟨gM, oM, none⟩ = some (.int .i64 (M.getD 0 0)) := by rw [HF1.out.cell lM]; exact kM 0 (by omega)
  have d1 : (w.alloc (.cells #[.slice (some ⟨gM, oM, none⟩) M.length cM, .slice aF F.length cF, .slice (some ⟨gV, oV, none⟩) V.length cV, .slice (some ⟨gH, oH, none⟩) H.length cH] 25)).cell? ⟨gV, oV, none⟩ = some (.int .i64 (V.getD 0 0)) := by rw [HF1.out.cell lV]; exact kV 0 (by omega)
  have d2 : (w.alloc (.cells #[.slice (some ⟨gM, oM, none⟩) M.length cM, .slice aF F.length cF, .slice (some ⟨gV, oV, none⟩) V.length cV, .slice (some ⟨gH, oH, none⟩) H.length cH] 25)).cell? ⟨gH, oH, none⟩ = some (.bool (H.getD 0 false)) := by rw [HF1.out.cell lH]; exact kH 0 (by omega)
  have hl0 : 0 < M.length := by omega
  have hl1 : 0 < V.length := by omega
  have hl2 : 0 < H.length := by omega
  generalize M.getD 0 0 = m0 at *
  clear hVk hVl kM kV kH hF hH h1 h2 h3 E3 F1 HB lM lV lH
  go_enter Try.func26, Try.ntmps26
  go_wp2_with fail
  refine X3.out.mono ?_
  rintro e w' ⟨rfl, rfl⟩
  go_wp2_with fail
  go_ret
  exact ⟨rfl, HF1.out⟩
set_option maxRecDepth 8000 in
set_option maxHeartbeats 4000000 in
theorem impl_NamOk_v (M F V : List Int) (H : List Bool) (aM aF aV aH : Option Addr) (cM cF cV cH : Nat) (w : World) (h : SrcN w ⟨M, F, V, H⟩ aM aF aV aH) (hf : Few6 ⟨M, F, V, H⟩) (h1 : M.length = 8) (h2 : H.length = 20) (h3 : wordsB V 20 = true) (h5 : M.getD 0 0 = 0) (h6 : (V.getD 0 0 == 0) = false) :
    Calls Try.prog 26 #[.agg #[.slice aM M.length cM, .slice aF F.length cF, .slice aV V.length cV, .slice aH H.length cH]] w fun e w' => e = .returned (.bool false) ∧ Fr w w' := by
  obtain ⟨hM, hF, hV, hH⟩ := h
  obtain ⟨fM, fF, fV, fH⟩ := hf
  simp only at hM hF hV hH fM fF fV fH
  have F1 := Fr.alloc w (.cells #[.slice aM M.length cM, .slice aF F.length cF, .slice aV V.length cV, .slice aH H.length cH] 25)
  have HB := Lib.hid (Box4.new w (.slice aM M.length cM) (.slice aF F.length cF) (.slice aV V.length cV) (.slice aH H.length cH) 25 _ rfl)
  have E3 := impl_areWords V aV cV 20 _ (hV.fr F1) (by omega)
  rw [show (20 : Int) = ((20 : Nat) : Int) from rfl, words_eq, h3] at E3
  have X3 := Lib.hid E3
  obtain ⟨hVk, hVl⟩ := wordsB_true h3
  have hne1 : ((M.length : Int) != 8) = false := by simp; omega
  have hne2 : ((H.length : Int) != 20) = false := by simp; omega
  have HSM := Lib.hid hM
  have HSF := Lib.hid hF
  obtain ⟨gM, oM, rfl, lM, kM⟩ := hM (by omega)
  obtain ⟨gV, oV, rfl, lV, kV⟩ := hV (by omega)
  obtain ⟨gH, oH, rfl, lH, kH⟩ := hH (by omega)
  have HF1 := Lib.hid F1
  have d0 : (w.alloc (.cells #[.slice (some ⟨gM, oM, none⟩) M.length cM, .slice aF F.length cF, .slice (some ⟨gV, oV, none⟩) V.length cV, .slice (some ⟨gH, oH, none⟩) H.length cH] 25)).cell? ⟨gM, oM, none⟩ = some (.int .i64 (M.getD 0 0)) := by rw [HF1.out.cell lM]; exact kM 0 (by omega)
  have d1 : (w.alloc (.cells #[.slice (some ⟨gM, oM, none⟩) M.length cM, .slice aF F.length cF, .slice (some ⟨gV, oV, none⟩) V.length cV, .slice (some ⟨gH, oH, none⟩) H.length cH] 25)).cell? ⟨gV, oV, none⟩ = some (.int .i64 (V.getD 0 0)) := by rw [HF1.out.cell lV]; exact kV 0 (by omega)
  have d2 : (w.alloc (.cells #[.slice (some ⟨gM, oM, none⟩) M.length cM, .slice aF F.length cF, .slice (some ⟨gV, oV, none⟩) V.length cV, .slice (some ⟨gH, oH, none⟩) H.length cH] 25)).cell? ⟨gH, oH, none⟩ = some (.bool (H.getD 0 false)) := by rw [HF1.out.cell lH]; exact kH 0 (by omega)
  have hl0 : 0 < M.length := by omega
  have hl1 : 0 < V.length := by omega
  have hl2 : 0 < H.length := by omega
  rw [h5] at d0
  generalize V.getD 0 0 = v0 at *
  clear hVk hVl kM kV kH hF hH h1 h2 h3 E3 F1 HB h5 lM lV lH
  go_enter Try.func26, Try.ntmps26
  go_wp2_with fail
  refine X3.out.mono ?_
  rintro e w' ⟨rfl, rfl⟩
  go_wp2_with fail
  go_ret
  exact ⟨rfl, HF1.out⟩
set_option maxRecDepth 8000 in
set_option maxHeartbeats 4000000 in
theorem impl_NamOk_h (M F V : List Int) (H : List Bool) (aM aF aV aH : Option Addr) (cM cF cV cH : Nat) (w : World) (h : SrcN w ⟨M, F, V, H⟩ aM aF aV aH) (hf : Few6 ⟨M, F, V, H⟩) (h1 : M.length = 8) (h2 : H.length = 20) (h3 : wordsB V 20 = true) (h5 : M.getD 0 0 = 0) (h6 : V.getD 0 0 = 0) (h7 : H.getD 0 false = false) :
    Calls Try.prog 26 #[.agg #[.slice aM M.length cM, .slice aF F.length cF, .slice aV V.length cV, .slice aH H.length cH]] w fun e w' => e = .returned (.bool false) ∧ Fr w w' := by
  obtain ⟨hM, hF, hV, hH⟩ := h
  obtain ⟨fM, fF, fV, fH⟩ := hf
  simp only at hM hF hV hH fM fF fV fH
  have F1 := Fr.alloc w (.cells #[.slice aM M.length cM, .slice aF F.length cF, .slice aV V.length cV, .slice aH H.length cH] 25)
  have HB := Lib.hid (Box4.new w (.slice aM M.length cM) (.slice aF F.length cF) (.slice aV V.length cV) (.slice aH H.length cH) 25 _ rfl)
  have E3 := impl_areWords V aV cV 20 _ (hV.fr F1) (by omega)
  rw [show (20 : Int) = ((20 : Nat) : Int) from rfl, words_eq, h3] at E3
  have X3 := Lib.hid E3
  obtain ⟨hVk, hVl⟩ := wordsB_true h3
  have hne1 : ((M.length : Int) != 8) = false := by simp; omega
  have hne2 : ((H.length : Int) != 20) = false := by simp; omega
  have HSM := Lib.hid hM
  have HSF := Lib.hid hF
  obtain ⟨gM, oM, rfl, lM, kM⟩ := hM (by omega)
  obtain ⟨gV, oV, rfl, lV, kV⟩ := hV (by omega)
  obtain ⟨gH, oH, rfl, lH, kH⟩ := hH (by omega)
  have HF1 := Lib.hid F1
  have d0 : (w.alloc (.cells #[.slice (some ⟨gM, oM, none⟩) M.length cM, .slice aF F.length cF, .slice (some ⟨gV, oV, none⟩) V.length cV, .slice (some ⟨gH, oH, none⟩) H.length cH] 25)).cell? ⟨gM, oM, none⟩ = some (.int .i64 (M.getD 0 0)) := by rw [HF1.out.cell lM]; exact kM 0 (by omega)
  have d1 : (w.alloc (.cells #[.slice (some ⟨gM, oM, none⟩) M.length cM, .slice aF F.length cF, .slice (some ⟨gV, oV, none⟩) V.length cV, .slice (some ⟨gH, oH, none⟩) H.length cH] 25)).cell? ⟨gV, oV, none⟩ = some (.int .i64 (V.getD 0 0)) := by rw [HF1.out.cell lV]; exact kV 0 (by omega)
  have d2 : (w.alloc (.cells #[.slice (some ⟨gM, oM, none⟩) M.length cM, .slice aF F.length cF, .slice (some ⟨gV, oV, none⟩) V.length cV, .slice (some ⟨gH, oH, none⟩) H.length cH] 25)).cell? ⟨gH, oH, none⟩ = some (.bool (H.getD 0 false)) := by rw [HF1.out.cell lH]; exact kH 0 (by omega)
  have hl0 : 0 < M.length := by omega
  have hl1 : 0 < V.length := by omega
  have hl2 : 0 < H.length := by omega
  rw [h5] at d0
  rw [h6] at d1
  rw [h7] at d2
  clear hVk hVl kM kV kH hF hH h1 h2 h3 E3 F1 HB h5 h6 h7 lM lV lH
  go_enter Try.func26, Try.ntmps26
  go_wp2_with fail
  refine X3.out.mono ?_
  rintro e w' ⟨rfl, rfl⟩
  go_wp2_with fail
  go_ret
  exact ⟨rfl, HF1.out⟩
set_option maxRecDepth 8000 in
set_option maxHeartbeats 4000000 in
theorem impl_NamOk_a (M F V : List Int) (H : List Bool) (aM aF aV aH : Option Addr) (cM cF cV cH : Nat) (w : World) (h : SrcN w ⟨M, F, V, H⟩ aM aF aV aH) (hf : Few6 ⟨M, F, V, H⟩) (h1 : M.length = 8) (h2 : H.length = 20) (h3 : wordsB V 20 = true) (h5 : M.getD 0 0 = 0) (h6 : V.getD 0 0 = 0) (h7 : H.getD 0 false = true) :
    Calls Try.prog 26 #[.agg #[.slice aM M.length cM, .slice aF F.length cF, .slice aV V.length cV, .slice aH H.length cH]] w fun e w' => e = .returned (.bool (apB (M ++ F))) ∧ Fr w w' := by
  obtain ⟨hM, hF, hV, hH⟩ := h
  obtain ⟨fM, fF, fV, fH⟩ := hf
  simp only at hM hF hV hH fM fF fV fH
  have F1 := Fr.alloc w (.cells #[.slice aM M.length cM, .slice aF F.length cF, .slice aV V.length cV, .slice aH H.length cH] 25)
  have HB := Lib.hid (Box4.new w (.slice aM M.length cM) (.slice aF F.length cF) (.slice aV V.length cV) (.slice aH H.length cH) 25 _ rfl)
  have E3 := impl_areWords V aV cV 20 _ (hV.fr F1) (by omega)
  rw [show (20 : Int) = ((20 : Nat) : Int) from rfl, words_eq, h3] at E3
  have X3 := Lib.hid E3
  obtain ⟨hVk, hVl⟩ := wordsB_true h3
  have hne1 : ((M.length : Int) != 8) = false := by simp; omega
  have hne2 : ((H.length : Int) != 20) = false := by simp; omega
  have HSM := Lib.hid hM
  have HSF := Lib.hid hF
  obtain ⟨gM, oM, rfl, lM, kM⟩ := hM (by omega)
  obtain ⟨gV, oV, rfl, lV, kV⟩ := hV (by omega)
  obtain ⟨gH, oH, rfl, lH, kH⟩ := hH (by omega)
  have HF1 := Lib.hid F1
  have d0 : (w.alloc (.cells #[.slice (some ⟨gM, oM, none⟩) M.length cM, .slice aF F.length cF, .slice (some ⟨gV, oV, none⟩) V.length cV, .slice (some ⟨gH, oH, none⟩) H.length cH] 25)).cell? ⟨gM, oM, none⟩ = some (.int .i64 (M.getD 0 0)) := by rw [HF1.out.cell lM]; exact kM 0 (by omega)
  have d1 : (w.alloc (.cells #[.slice (some ⟨gM, oM, none⟩) M.length cM, .slice aF F.length cF, .slice (some ⟨gV, oV, none⟩) V.length cV, .slice (some ⟨gH, oH, none⟩) H.length cH] 25)).cell? ⟨gV, oV, none⟩ = some (.int .i64 (V.getD 0 0)) := by rw [HF1.out.cell lV]; exact kV 0 (by omega)
  have d2 : (w.alloc (.cells #[.slice (some ⟨gM, oM, none⟩) M.length cM, .slice aF F.length cF, .slice (some ⟨gV, oV, none⟩) V.length cV, .slice (some ⟨gH, oH, none⟩) H.length cH] 25)).cell? ⟨gH, oH, none⟩ = some (.bool (H.getD 0 false)) := by rw [HF1.out.cell lH]; exact kH 0 (by omega)
  have hl0 : 0 < M.length := by omega
  have hl1 : 0 < V.length := by omega
  have hl2 : 0 < H.length := by omega
  rw [h5] at d0
  rw [h6] at d1
  rw [h7] at d2
  have hgM : gM < w.heap.size := lM
  clear hVk hVl kM kV kH hF hH h1 h2 h3 E3 F1 HB h5 h6 h7 lM lV lH
  go_enter Try.func26, Try.ntmps26
  go_wp2_with fail
  refine X3.out.mono ?_
  rintro e w' ⟨rfl, rfl⟩
  go_wp2_with fail
  have HF2 := Lib.hid (show Fr w ((w.alloc (.cells #[.slice (some ⟨gM, oM, none⟩) M.length cM, .slice aF F.length cF, .slice (some ⟨gV, oV, none⟩) V.length cV, .slice (some ⟨gH, oH, none⟩) H.length cH] 25)).alloc (.cells #[.slice (some ⟨gM, oM, none⟩) M.length cM, .slice aF F.length cF] 22)) from HF1.out.trans (Fr.alloc _ _))
  have A0 := (alloc_at (w.alloc (.cells #[.slice (some ⟨gM, oM, none⟩) M.length cM, .slice aF F.length cF, .slice (some ⟨gV, oV, none⟩) V.length cV, .slice (some ⟨gH, oH, none⟩) H.length cH] 25)) #[.slice (some ⟨gM, oM, none⟩) M.length cM, .slice aF F.length cF] 22 _ rfl 0).1
  have A1 := (alloc_at (w.alloc (.cells #[.slice (some ⟨gM, oM, none⟩) M.length cM, .slice aF F.length cF, .slice (some ⟨gV, oV, none⟩) V.length cV, .slice (some ⟨gH, oH, none⟩) H.length cH] 25)) #[.slice (some ⟨gM, oM, none⟩) M.length cM, .slice aF F.length cF] 22 _ rfl 1).1
  refine (impl_areApart M F _ aF cM cF (w.heap.size + 1) _ (HSM.out.fr HF2.out) (HSF.out.fr HF2.out) (by simp) (by simp) (by simp) fM fF).mono ?_
  rintro e u3 ⟨rfl, f3⟩
  have HF3 := Lib.hid (HF2.out.trans f3)
  clear f3
  go_wp2_with fail
  go_ret
  exact ⟨rfl, HF3.out⟩
theorem impl_NamOk (x : Nm) (aM aF aV aH : Option Addr) (cM cF cV cH : Nat) (w : World) (h : SrcN w x aM aF aV aH) (hf : Few6 x) :
    Calls Try.prog 26 #[.agg #[.slice aM x.M.length cM, .slice aF x.F.length cF, .slice aV x.V.length cV, .slice aH x.H.length cH]] w fun e w' => e = .returned (.bool (okN x)) ∧ Fr w w' := by
  obtain ⟨M, F, V, H⟩ := x
  simp only
  by_cases h1 : M.length = 8
  · by_cases h2 : H.length = 20
    · cases h3 : wordsB V 20
      · rw [show okN ⟨M, F, V, H⟩ = false by simp [okN, h3]]
        exact impl_NamOk_n3 M F V H aM aF aV aH cM cF cV cH w h hf h1 h2 h3
      · by_cases h5 : M.getD 0 0 = 0
        · by_cases h6 : V.getD 0 0 = 0
          · cases h7 : H.getD 0 false
            · rw [show okN ⟨M, F, V, H⟩ = false by show (decide (M.length = 8) && (decide (H.length = 20) && (wordsB V 20 && (decide (M.getD 0 0 = 0) && (decide (V.getD 0 0 = 0) && (H.getD 0 false && apB (M ++ F))))))) = _; rw [h7]; simp only [Bool.false_and, Bool.and_false]]
              exact impl_NamOk_h M F V H aM aF aV aH cM cF cV cH w h hf h1 h2 h3 h5 h6 h7
            · rw [show okN ⟨M, F, V, H⟩ = apB (M ++ F) by show (decide (M.length = 8) && (decide (H.length = 20) && (wordsB V 20 && (decide (M.getD 0 0 = 0) && (decide (V.getD 0 0 = 0) && (H.getD 0 false && apB (M ++ F))))))) = _; rw [decide_eq_true h1, decide_eq_true h2, h3, decide_eq_true h5, decide_eq_true h6, h7]; simp only [Bool.true_and]]
              exact impl_NamOk_a M F V H aM aF aV aH cM cF cV cH w h hf h1 h2 h3 h5 h6 h7
          · rw [show okN ⟨M, F, V, H⟩ = false by show (decide (M.length = 8) && (decide (H.length = 20) && (wordsB V 20 && (decide (M.getD 0 0 = 0) && (decide (V.getD 0 0 = 0) && (H.getD 0 false && apB (M ++ F))))))) = _; rw [decide_eq_false h6]; simp only [Bool.false_and, Bool.and_false]]
            exact impl_NamOk_v M F V H aM aF aV aH cM cF cV cH w h hf h1 h2 h3 h5 (by simpa using h6)
        · rw [show okN ⟨M, F, V, H⟩ = false by show (decide (M.length = 8) && (decide (H.length = 20) && (wordsB V 20 && (decide (M.getD 0 0 = 0) && (decide (V.getD 0 0 = 0) && (H.getD 0 false && apB (M ++ F))))))) = _; rw [decide_eq_false h5]; simp only [Bool.false_and, Bool.and_false]]
          exact impl_NamOk_m M F V H aM aF aV aH cM cF cV cH w h hf h1 h2 h3 (by simpa using h5)
    · rw [show okN ⟨M, F, V, H⟩ = false by simp [okN, h2]]
      exact impl_NamOk_n2 M F V H aM aF aV aH cM cF cV cH w h hf h1 h2
  · rw [show okN ⟨M, F, V, H⟩ = false by simp [okN, h1]]
    exact impl_NamOk_n1 M F V H aM aF aV aH cM cF cV cH w h hf h1

end Go.Proofs.Ytddllgjieccikaa
