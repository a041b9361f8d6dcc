/- The model's NamOk. -/
import Derived.Test.YtddllgjieccikaaN2
import Derived.Test.YtddllgjieccikaaRegion6
import Derived.Test.YtddllgjieccikaaRegion2
import Derived.Test.YtddllgjieccikaaGs7
import Derived.Test.YtddllgjieccikaaGu4
namespace Go.Proofs.Ytddllgjieccikaa
open Go.RowKit
set_option linter.unusedVariables false
set_option linter.unusedSimpArgs false
/-- What an own row of numbers holds. -/
theorem own_row {B : Nat} {u : World} {e : TypeId} {v : Value} {n : Nat} {xs : List Int} (h : u.ownsRow B e 1 v n (xs.map (Value.int .i64))) : ∃ ao cap, v = .slice ao xs.length cap ∧ Src u xs.length (ivl xs) ao ∧ xs.length ≤ cap := by
  have hl : xs.length = n := by simpa using h.1
  obtain ⟨ao, cap, e1, hv, _⟩ := own_vc h
  subst hl
  refine ⟨ao, cap, e1, ?_, ?_⟩
  · exact (hv.cong (c' := ivl xs) (fun i hi => by simp [List.getD_eq_getElem?_getD, List.getElem?_map, List.getElem?_eq_getElem hi])).src
  · rcases h.2 with ⟨e2, h0⟩ | ⟨g, c, cur, e2, _, _, hc, _⟩
    · rw [e2] at e1; simp only [Value.slice.injEq] at e1; omega
    · rw [e2] at e1; simp only [Value.slice.injEq] at e1; omega
structure Few6 (x : Nm) : Prop where
  M : x.M.length ≤ 2000000
  F : x.F.length ≤ 2000000
  V : x.V.length ≤ 2000000
  H : x.H.length ≤ 2000000
theorem FewN.few6 {x : Nm} (h : FewN x) : Few6 x := ⟨by have := h.M; omega, by have := h.F; omega, by have := h.V; omega, by have := h.H; omega⟩
set_option maxRecDepth 8000 in
set_option maxHeartbeats 4000000 in
theorem spec_NamOk_n1 (M F V : List Int) (H : List Bool) (aM aF aV aH : Option Addr) (cM cF cV cH : Nat) (w : World) (h : SrcN w ⟨M, F, V, H⟩ aM aF aV aH) (hf : Few6 ⟨M, F, V, H⟩) (h1 : ¬ M.length = 8) :
    Calls Try.prog 24 #[.agg #[.slice aM M.length cM, .slice aF F.length cF, .slice aV V.length cV, .slice aH H.length cH]] w fun e w' => e = .returned (.bool false) ∧ Fr w w' := by
  obtain ⟨hM, hF, hV, hH⟩ := h
  obtain ⟨fM, fF, fV, fH⟩ := hf
  simp only at hM hF hV hH fM fF fV fH
  have F1 := Fr.alloc w (.cells #[.slice aM M.length cM, .slice aF F.length cF, .slice aV V.length cV, .slice aH H.length cH] 25)
  have HB := Lib.hid (Box4.new w (.slice aM M.length cM) (.slice aF F.length cF) (.slice aV V.length cV) (.slice aH H.length cH) 25 _ rfl)
  have HF1 := Lib.hid F1
  have hne : ((M.length : Int) != 8) = true := by simp; omega
  clear hM hF hV hH F1 h1
  go_enter Try.func24, Try.ntmps24
  go_wp2_with fail
  go_ret
  exact ⟨rfl, HF1.out⟩
set_option maxRecDepth 8000 in
set_option maxHeartbeats 4000000 in
theorem spec_NamOk_n2 (M F V : List Int) (H : List Bool) (aM aF aV aH : Option Addr) (cM cF cV cH : Nat) (w : World) (h : SrcN w ⟨M, F, V, H⟩ aM aF aV aH) (hf : Few6 ⟨M, F, V, H⟩) (h1 : M.length = 8) (h2 : ¬ H.length = 20) :
    Calls Try.prog 24 #[.agg #[.slice aM M.length cM, .slice aF F.length cF, .slice aV V.length cV, .slice aH H.length cH]] w fun e w' => e = .returned (.bool false) ∧ Fr w w' := by
  obtain ⟨hM, hF, hV, hH⟩ := h
  obtain ⟨fM, fF, fV, fH⟩ := hf
  simp only at hM hF hV hH fM fF fV fH
  have F1 := Fr.alloc w (.cells #[.slice aM M.length cM, .slice aF F.length cF, .slice aV V.length cV, .slice aH H.length cH] 25)
  have HB := Lib.hid (Box4.new w (.slice aM M.length cM) (.slice aF F.length cF) (.slice aV V.length cV) (.slice aH H.length cH) 25 _ rfl)
  have HF1 := Lib.hid F1
  have hne1 : ((M.length : Int) != 8) = false := by simp; omega
  have hne : ((H.length : Int) != 20) = true := by simp; omega
  clear hM hF hV hH F1 h1 h2
  go_enter Try.func24, Try.ntmps24
  go_wp2_with fail
  go_ret
  exact ⟨rfl, HF1.out⟩
set_option maxRecDepth 8000 in
set_option maxHeartbeats 4000000 in
theorem spec_NamOk_n3 (M F V : List Int) (H : List Bool) (aM aF aV aH : Option Addr) (cM cF cV cH : Nat) (w : World) (h : SrcN w ⟨M, F, V, H⟩ aM aF aV aH) (hf : Few6 ⟨M, F, V, H⟩) (h1 : M.length = 8) (h2 : H.length = 20) (h3 : wordsB V 20 = false) :
    Calls Try.prog 24 #[.agg #[.slice aM M.length cM, .slice aF F.length cF, .slice aV V.length cV, .slice aH H.length cH]] w fun e w' => e = .returned (.bool false) ∧ Fr w w' := by
  obtain ⟨hM, hF, hV, hH⟩ := h
  obtain ⟨fM, fF, fV, fH⟩ := hf
  simp only at hM hF hV hH fM fF fV fH
  have F1 := Fr.alloc w (.cells #[.slice aM M.length cM, .slice aF F.length cF, .slice aV V.length cV, .slice aH H.length cH] 25)
  have HB := Lib.hid (Box4.new w (.slice aM M.length cM) (.slice aF F.length cF) (.slice aV V.length cV) (.slice aH H.length cH) 25 _ rfl)
  have E3 := spec_l4Words V aV cV 20 _ (hV.fr F1) (by omega)
  rw [show (20 : Int) = ((20 : Nat) : Int) from rfl, words_eq, h3] at E3
  have X3 := Lib.hid E3
  have HF1 := Lib.hid F1
  have hne1 : ((M.length : Int) != 8) = false := by simp; omega
  have hne2 : ((H.length : Int) != 20) = false := by simp; omega
  clear hM hF hV hH F1 h1 h2 h3 E3
  go_enter Try.func24, Try.ntmps24
  go_wp2_with fail
  refine X3.out.mono ?_
  rintro e w' ⟨rfl, rfl⟩
  go_wp2_with fail
  go_ret
  exact ⟨rfl, HF1.out⟩
set_option maxRecDepth 8000 in
set_option maxHeartbeats 4000000 in
theorem spec_NamOk_a (M F V : List Int) (H : List Bool) (aM aF aV aH : Option Addr) (cM cF cV cH : Nat) (w : World) (h : SrcN w ⟨M, F, V, H⟩ aM aF aV aH) (hf : Few6 ⟨M, F, V, H⟩) (h1 : M.length = 8) (h2 : H.length = 20) (h3 : wordsB V 20 = true) (h4 : apB (M ++ F) = false) :
    Calls Try.prog 24 #[.agg #[.slice aM M.length cM, .slice aF F.length cF, .slice aV V.length cV, .slice aH H.length cH]] w fun e w' => e = .returned (.bool false) ∧ Fr w w' := by
  obtain ⟨hM, hF, hV, hH⟩ := h
  obtain ⟨fM, fF, fV, fH⟩ := hf
  simp only at hM hF hV hH fM fF fV fH
  have F1 := Fr.alloc w (.cells #[.slice aM M.length cM, .slice aF F.length cF, .slice aV V.length cV, .slice aH H.length cH] 25)
  have HB := Lib.hid (Box4.new w (.slice aM M.length cM) (.slice aF F.length cF) (.slice aV V.length cV) (.slice aH H.length cH) 25 _ rfl)
  have E3 := spec_l4Words V aV cV 20 _ (hV.fr F1) (by omega)
  rw [show (20 : Int) = ((20 : Nat) : Int) from rfl, words_eq, h3] at E3
  have X3 := Lib.hid E3
  obtain ⟨hVk, hVl⟩ := wordsB_true h3
  obtain ⟨i0, hi, hz0, hz1, hz2⟩ := info_parts info_intV
  have hne1 : ((M.length : Int) != 8) = false := by simp; omega
  have hne2 : ((H.length : Int) != 20) = false := by simp; omega
  obtain ⟨gM, oM, rfl, lM, kM⟩ := hM (by omega)
  obtain ⟨gV, oV, rfl, lV, kV⟩ := hV (by omega)
  obtain ⟨gH, oH, rfl, lH, kH⟩ := hH (by omega)
  have HLM := Lib.hid h1
  have HLV := Lib.hid hVl
  have HLH := Lib.hid h2
  obtain ⟨MF, hMF⟩ : ∃ MF, M ++ F = MF := ⟨_, rfl⟩
  rw [hMF] at h4
  have HMF := Lib.hid hMF
  have HAP := Lib.hid h4
  have HF1 := Lib.hid F1
  have KM := Lib.hid (fun (u : World) (f : Fr (w.alloc (.cells #[.slice (some ⟨gM, oM, none⟩) M.length cM, .slice aF F.length cF, .slice (some ⟨gV, oV, none⟩) V.length cV, .slice (some ⟨gH, oH, none⟩) H.length cH] 25)) u) => show ∀ i, i < M.length → u.cell? ⟨gM, oM + i, none⟩ = some (ivl M i) from fun i hi => by rw [(Fr.trans HF1.out f).cell lM]; exact kM i hi)
  have KM0 := Lib.hid (fun (u : World) (f : Fr (w.alloc (.cells #[.slice (some ⟨gM, oM, none⟩) M.length cM, .slice aF F.length cF, .slice (some ⟨gV, oV, none⟩) V.length cV, .slice (some ⟨gH, oH, none⟩) H.length cH] 25)) u) => show u.cell? ⟨gM, oM, none⟩ = some (.int .i64 (M.getD 0 0)) from KM.out u f 0 (by omega))
  have KV0 := Lib.hid (fun (u : World) (f : Fr (w.alloc (.cells #[.slice (some ⟨gM, oM, none⟩) M.length cM, .slice aF F.length cF, .slice (some ⟨gV, oV, none⟩) V.length cV, .slice (some ⟨gH, oH, none⟩) H.length cH] 25)) u) => show u.cell? ⟨gV, oV, none⟩ = some (.int .i64 (V.getD 0 0)) from by rw [(Fr.trans HF1.out f).cell lV]; exact kV 0 (by omega))
  have KH0 := Lib.hid (fun (u : World) (f : Fr (w.alloc (.cells #[.slice (some ⟨gM, oM, none⟩) M.length cM, .slice aF F.length cF, .slice (some ⟨gV, oV, none⟩) V.length cV, .slice (some ⟨gH, oH, none⟩) H.length cH] 25)) u) => show u.cell? ⟨gH, oH, none⟩ = some (.bool (H.getD 0 false)) from by rw [(Fr.trans HF1.out f).cell lH]; exact kH 0 (by omega))
  have HSF := Lib.hid (fun (u : World) (f : Fr (w.alloc (.cells #[.slice (some ⟨gM, oM, none⟩) M.length cM, .slice aF F.length cF, .slice (some ⟨gV, oV, none⟩) V.length cV, .slice (some ⟨gH, oH, none⟩) H.length cH] 25)) u) => show 0 < F.length → ∃ g o, aF = some ⟨g, o, none⟩ ∧ ∀ i, i < F.length → u.cell? ⟨g, o + i, none⟩ = some (ivl F i) from fun h0 => by
    obtain ⟨g, o, e, l, k⟩ := hF h0
    exact ⟨g, o, e, fun i hi => by rw [(Fr.trans HF1.out f).cell l]; exact k i hi⟩)
  generalize M.getD 0 0 = m0 at *
  generalize V.getD 0 0 = v0 at *
  generalize H.getD 0 false = b0 at *
  clear hMF h1 h2 h3 h4 hVk hVl kM kV kH hF hH E3 lM lV lH F1
  go_enter Try.func24, Try.ntmps24
  go_wp2_with fail
  refine X3.out.mono ?_
  rintro e w' ⟨rfl, rfl⟩
  go_wp2_with fail
  generalize (w.alloc (.cells #[.slice (some ⟨gM, oM, none⟩) M.length cM, .slice aF F.length cF, .slice (some ⟨gV, oV, none⟩) V.length cV, .slice (some ⟨gH, oH, none⟩) H.length cH] 25)) = u0 at *
  refine wp_region_spend 47 [(6, 3)] (fun i v u => match i with | 0 => ∃ g, v = .slice (some ⟨g, 0, none⟩) 0 0 | 1 => v = .pointer (some ⟨w.heap.size, 0, none⟩) | 2 => v = .slice (some ⟨gM, oM, none⟩) M.length cM | 3 => ∃ g c, v = .slice (some ⟨g, 0, none⟩) M.length c ∧ u0.heap.size ≤ g ∧ Ro u g M ∧ Ca u g M.length c | 4 => v = .pointer (some ⟨w.heap.size, 1, none⟩) | 5 => v = .slice aF F.length cF | 6 => ∃ ao c, v = .slice ao MF.length c ∧ Src u MF.length (ivl MF) ao ∧ MF.length ≤ c | 7 => v = .bool false | 8 => v = .bool false | 9 => v = undef | 10 => v = undef | 11 => v = undef | 12 => v = undef | 13 => v = undef | 14 => v = .bool false | 15 => v = .bool false | 16 => v = undef | 17 => v = undef | 18 => v = undef | 19 => v = undef | 20 => v = undef | 21 => v = .bool false | 22 => v = .bool false | 23 => v = undef | 24 => v = undef | 25 => v = undef | 26 => v = undef | 27 => v = .bool false | 28 => v = .bool false | _ => True) ?mono ?mono2 (by kernel_rfl) (by kernel_rfl) rfl (by kernel_rfl) ?step ?fin
  case mono =>
    intro j v u u' hsz h f
    rcases j with _ | _ | _ | _ | _ | _ | _ | _ | _ | _ | _ | _ | _ | _ | _ | _ | _ | _ | _ | _ | _ | _ | _ | _ | _ | _ | _ | _ | _ | j
    · exact h
    · exact h
    · exact h
    · obtain ⟨g, c, e, hb, r, k⟩ := h
      exact ⟨g, c, e, hb, r.fr f, k.but (L := []) (But.of f) (by simp)⟩
    · exact h
    · exact h
    · obtain ⟨ao, c, e, s, k⟩ := h
      exact ⟨ao, c, e, s.fr f, k⟩
    · exact h
    · exact h
    · exact h
    · exact h
    · exact h
    · exact h
    · exact h
    · exact h
    · exact h
    · exact h
    · exact h
    · exact h
    · exact h
    · exact h
    · exact h
    · exact h
    · exact h
    · exact h
    · exact h
    · exact h
    · exact h
    · exact h
    · trivial
  case mono2 =>
    intro j v u u' g hsz hne h hg f
    rcases j with _ | _ | _ | _ | _ | _ | _ | _ | _ | _ | _ | _ | _ | _ | _ | _ | _ | _ | _ | _ | _ | _ | _ | _ | _ | _ | _ | _ | _ | j
    · exact h
    · exact h
    · exact h
    · exact absurd rfl (hne (6, 3) (by simp)).1
    · exact h
    · exact h
    · exact absurd rfl (hne (6, 3) (by simp)).2
    · exact h
    · exact h
    · exact h
    · exact h
    · exact h
    · exact h
    · exact h
    · exact h
    · exact h
    · exact h
    · exact h
    · exact h
    · exact h
    · exact h
    · exact h
    · exact h
    · exact h
    · exact h
    · exact h
    · exact h
    · exact h
    · exact h
    · trivial
  case step =>
    intro i o ho
    rcases i with _ | _ | _ | _ | _ | _ | _ | _ | _ | _ | _ | _ | _ | _ | _ | _ | _ | _ | _ | _ | _ | _ | _ | _ | _ | _ | _ | _ | _ | i
    · cases ho
      intro act u hF hL hdep
      obtain ⟨ysl, ha, hy⟩ := hL.puts [19, 20, 21, 22, 23, 24, 25, 26, 27, 28, 29, 30, 31, 32, 33, 34, 35, 36, 37, 38, 39, 40, 41, 42, 43, 44, 45, 46, 2] (by kernel_rfl)
      clear hdep hL hy
      simp only [List.foldl, List.setIfInBounds_toArray, List.set_cons_succ, List.set_cons_zero] at ha
      subst ha
      refine wpOp_step rfl (fun K hK => ?_)
      go_simp
      exact hK _ _ ⟨_, rfl, (fun h => by cases h), ⟨_, rfl⟩, .inl (Fr.alloc _ _)⟩
    · cases ho
      intro act u hF hL hdep
      obtain ⟨ysl, ha, hy⟩ := hL.puts [19, 20, 21, 22, 23, 24, 25, 26, 27, 28, 29, 30, 31, 32, 33, 34, 35, 36, 37, 38, 39, 40, 41, 42, 43, 44, 45, 46, 2] (by kernel_rfl)
      clear hdep hL hy
      simp only [List.foldl, List.setIfInBounds_toArray, List.set_cons_succ, List.set_cons_zero] at ha
      subst ha
      refine wpOp_step rfl (fun K hK => ?_)
      go_simp
      exact hK _ _ ⟨_, rfl, (fun h => by cases h), rfl, .inl (Below.refl _ _)⟩
    · cases ho
      intro act u hF hL hdep
      have d1 := hdep { on := 1, ground := .data } (by simp) rfl (fun p hp h => by simp at hp; try subst hp; first | rfl | exact absurd h (by decide)) _ rfl
      obtain ⟨ysl, ha, hy⟩ := hL.puts [19, 20, 21, 22, 23, 24, 25, 26, 27, 28, 29, 30, 31, 32, 33, 34, 35, 36, 37, 38, 39, 40, 41, 42, 43, 44, 45, 46, 2] (by kernel_rfl)
      have e1 : ysl 20 = _ := (hy 20).symm.trans d1
      clear hdep hL hy d1
      simp only [List.foldl, List.setIfInBounds_toArray, List.set_cons_succ, List.set_cons_zero, e1] at ha
      subst ha
      clear e1
      obtain ⟨_, c0, c1, c2, c3, _, _, _, _⟩ := HB.out.fr hF
      refine wpOp_step rfl (fun K hK => ?_)
      go_simp
      exact hK _ _ ⟨_, rfl, (fun h => by cases h), rfl, .inl (Below.refl _ _)⟩
    · cases ho
      intro act u hF hL hdep
      have d0 := hdep { on := 0, ground := .data } (by simp) rfl (fun p hp h => by simp at hp; try subst hp; first | rfl | exact absurd h (by decide)) _ rfl
      have d2 := hdep { on := 2, ground := .data } (by simp) rfl (fun p hp h => by simp at hp; try subst hp; first | rfl | exact absurd h (by decide)) _ rfl
      obtain ⟨ysl, ha, hy⟩ := hL.puts [19, 20, 21, 22, 23, 24, 25, 26, 27, 28, 29, 30, 31, 32, 33, 34, 35, 36, 37, 38, 39, 40, 41, 42, 43, 44, 45, 46, 2] (by kernel_rfl)
      obtain ⟨g0, h0⟩ := d0
      have e0 : ysl 19 = .slice (some ⟨g0, 0, none⟩) 0 0 := (hy 19).symm.trans h0
      have e2 : ysl 21 = _ := (hy 21).symm.trans d2
      clear hdep hL hy d2 h0
      simp only [List.foldl, List.setIfInBounds_toArray, List.set_cons_succ, List.set_cons_zero, e0, e2] at ha
      subst ha
      clear e0 e2
      refine wpOp_step rfl (fun K hK => ?_)
      rw [if_pos (by simp [Region.wanted])]
      refine wp_append_new _ _ 22 rfl 3 i0 (.int .i64 0) Try.underlying22 hi hz0 hz1 hz2 _ rfl ⟨gM, oM, none⟩ _ _ (M.map (Value.int .i64)) rfl (by simp) (cells_of M (KM.out u hF)) (ints_one _) (by have := HLM.out; omega) (by have := HLM.out; omega) ?_
      intro cp zs hzs
      refine hK _ _ ⟨_, rfl, (fun h => by cases h), ⟨_, cp, rfl, hF.size, ro_new u.drew M zs _, ca_new u.drew M zs cp (hzs rfl)⟩, .inl ((Below.drew (Below.refl _ _)).alloc (Nat.le_refl _) _)⟩
    · cases ho
      intro act u hF hL hdep
      obtain ⟨ysl, ha, hy⟩ := hL.puts [19, 20, 21, 22, 23, 24, 25, 26, 27, 28, 29, 30, 31, 32, 33, 34, 35, 36, 37, 38, 39, 40, 41, 42, 43, 44, 45, 46, 2] (by kernel_rfl)
      clear hdep hL hy
      simp only [List.foldl, List.setIfInBounds_toArray, List.set_cons_succ, List.set_cons_zero] at ha
      subst ha
      refine wpOp_step rfl (fun K hK => ?_)
      go_simp
      exact hK _ _ ⟨_, rfl, (fun h => by cases h), rfl, .inl (Below.refl _ _)⟩
    · cases ho
      intro act u hF hL hdep
      have d4 := hdep { on := 4, ground := .data } (by simp) rfl (fun p hp h => by simp at hp; try subst hp; first | rfl | exact absurd h (by decide)) _ rfl
      obtain ⟨ysl, ha, hy⟩ := hL.puts [19, 20, 21, 22, 23, 24, 25, 26, 27, 28, 29, 30, 31, 32, 33, 34, 35, 36, 37, 38, 39, 40, 41, 42, 43, 44, 45, 46, 2] (by kernel_rfl)
      have e4 : ysl 23 = _ := (hy 23).symm.trans d4
      clear hdep hL hy d4
      simp only [List.foldl, List.setIfInBounds_toArray, List.set_cons_succ, List.set_cons_zero, e4] at ha
      subst ha
      clear e4
      obtain ⟨_, c0, c1, c2, c3, _, _, _, _⟩ := HB.out.fr hF
      refine wpOp_step rfl (fun K hK => ?_)
      go_simp
      exact hK _ _ ⟨_, rfl, (fun h => by cases h), rfl, .inl (Below.refl _ _)⟩
    · cases ho
      intro act u hF hL hdep
      have d3 := hdep { on := 3, ground := .data } (by simp) rfl (fun p hp h => by simp at hp; try subst hp; first | rfl | exact absurd h (by decide)) _ rfl
      have d5 := hdep { on := 5, ground := .data } (by simp) rfl (fun p hp h => by simp at hp; try subst hp; first | rfl | exact absurd h (by decide)) _ rfl
      obtain ⟨ysl, ha, hy⟩ := hL.puts [19, 20, 21, 22, 23, 24, 25, 26, 27, 28, 29, 30, 31, 32, 33, 34, 35, 36, 37, 38, 39, 40, 41, 42, 43, 44, 45, 46, 2] (by kernel_rfl)
      obtain ⟨g3, c3, h3, b3, r3, k3⟩ := d3
      have e3 : ysl 22 = .slice (some ⟨g3, 0, none⟩) M.length c3 := (hy 22).symm.trans h3
      have e5 : ysl 24 = _ := (hy 24).symm.trans d5
      clear hdep hL hy d5 h3
      simp only [List.foldl, List.setIfInBounds_toArray, List.set_cons_succ, List.set_cons_zero, e3, e5] at ha
      subst ha
      clear e3 e5
      by_cases hz : F.length = 0
      · have hn : M = MF := by rw [← HMF.out, List.length_eq_zero_iff.1 hz, List.append_nil]
        rw [hz]
        refine wpOp_step rfl (fun K hK => ?_)
        rw [if_pos (by simp [Region.wanted])]
        refine wp_append_zero _ _ 22 rfl 3 i0 Try.underlying22 hi _ M.length c3 (by obtain ⟨_, _, _, hq, _⟩ := k3; exact hq) rfl _ _ rfl ?_
        refine hK _ _ ⟨_, rfl, (fun h => by cases h), ⟨_, c3, by rw [hn], by rw [← hn]; exact r3.src, by obtain ⟨_, _, _, hq, _⟩ := k3; rw [← hn]; exact hq⟩, .inl (Below.refl _ _)⟩
      · obtain ⟨gF, oF, rfl, kF⟩ := HSF.out u hF (by omega)
        refine wpOp_append_own_at rfl rfl _ _ 22 rfl u0.heap.size 3 i0 (.int .i64 0) 1 8 Try.underlying22 hi hz0 hz1 hz2 rfl (by decide) _ M.length (M.map (Value.int .i64)) rfl (ca_own k3 r3 b3) ⟨gF, oF, none⟩ F.length cF (F.map (Value.int .i64)) rfl (by simp) (cells_of F kF) (ints_one _) (by have := HLM.out; have : maxLen = 9223372036854775807 := rfl; omega) (by have := HLM.out; omega) hF.size ?_
        intro v' w' ho hg _
        rw [← List.map_append, HMF.out] at ho
        obtain ⟨ao, cp, rfl, hs, hc⟩ := own_row ho
        exact ⟨_, rfl, (fun h => by cases h), ⟨ao, cp, rfl, hs, hc⟩, .inr ⟨⟨3, by simp, fun p hp => by simpa using hp⟩, g3, b3, but_grown hg⟩⟩
    · cases ho
      intro act u hF hL hdep
      have d6 := hdep { on := 6, ground := .data } (by simp) rfl (fun p hp h => by simp at hp; try subst hp; first | rfl | exact absurd h (by decide)) _ rfl
      obtain ⟨ysl, ha, hy⟩ := hL.puts [19, 20, 21, 22, 23, 24, 25, 26, 27, 28, 29, 30, 31, 32, 33, 34, 35, 36, 37, 38, 39, 40, 41, 42, 43, 44, 45, 46, 2] (by kernel_rfl)
      obtain ⟨ao6, c6, h6, s6, k6⟩ := d6
      have e6 : ysl 25 = .slice ao6 MF.length c6 := (hy 25).symm.trans h6
      clear hdep hL hy h6
      simp only [List.foldl, List.setIfInBounds_toArray, List.set_cons_succ, List.set_cons_zero, e6] at ha
      subst ha
      clear e6
      refine wpOp_step rfl (fun K hK => ?_)
      go_simp
      refine (spec_l6Apart MF _ _ u s6 (by have := HLM.out; rw [← HMF.out]; simp; omega) k6).mono ?_
      rintro e u' ⟨rfl, m7, hm7⟩
      rw [HAP.out]
      go_simp
      exact hK _ _ ⟨_, rfl, (fun h => by cases h), rfl, .inl (by rw [← hm7]; exact Below.drewN (Below.refl _ _) _)⟩
    · cases ho
      intro act u hF hL hdep
      have d7 := hdep { on := 7, ground := .data } (by simp) rfl (fun p hp h => by simp at hp; try subst hp; first | rfl | exact absurd h (by decide)) _ rfl
      obtain ⟨ysl, ha, hy⟩ := hL.puts [19, 20, 21, 22, 23, 24, 25, 26, 27, 28, 29, 30, 31, 32, 33, 34, 35, 36, 37, 38, 39, 40, 41, 42, 43, 44, 45, 46, 2] (by kernel_rfl)
      have e7 : ysl 26 = _ := (hy 26).symm.trans d7
      clear hdep hL hy d7
      simp only [List.foldl, List.setIfInBounds_toArray, List.set_cons_succ, List.set_cons_zero, e7] at ha
      subst ha
      clear e7
      refine wpOp_step rfl (fun K hK => ?_)
      go_simp
      exact hK _ _ ⟨_, rfl, (fun h => by cases h), rfl, .inl (Below.refl _ _)⟩
    · cases ho
      intro act u hF hL hdep
      have d8 := hdep { on := 8, ground := .guard } (by simp) rfl (fun p hp h => by simp at hp; try subst hp; first | rfl | exact absurd h (by decide)) _ rfl
      obtain ⟨ysl, ha, hy⟩ := hL.puts [19, 20, 21, 22, 23, 24, 25, 26, 27, 28, 29, 30, 31, 32, 33, 34, 35, 36, 37, 38, 39, 40, 41, 42, 43, 44, 45, 46, 2] (by kernel_rfl)
      have e8 : ysl 27 = _ := (hy 27).symm.trans d8
      clear hdep hL hy d8
      simp only [List.foldl, List.setIfInBounds_toArray, List.set_cons_succ, List.set_cons_zero, e8] at ha
      subst ha
      clear e8
      refine wpOp_step rfl (fun K hK => ?_)
      go_simp
      exact hK _ _ ⟨_, rfl, (fun h => by cases h), rfl, .inl (Below.refl _ _)⟩
    · cases ho
      intro act u hF hL hdep
      have d8 := hdep { on := 8, ground := .guard } (by simp) rfl (fun p hp h => by simp at hp; try subst hp; first | rfl | exact absurd h (by decide)) _ rfl
      have d9 := hdep { on := 9, ground := .data } (by simp) rfl (fun p hp h => by simp at hp; try subst hp; first | rfl | exact absurd h (by decide)) _ rfl
      obtain ⟨ysl, ha, hy⟩ := hL.puts [19, 20, 21, 22, 23, 24, 25, 26, 27, 28, 29, 30, 31, 32, 33, 34, 35, 36, 37, 38, 39, 40, 41, 42, 43, 44, 45, 46, 2] (by kernel_rfl)
      have e8 : ysl 27 = _ := (hy 27).symm.trans d8
      have e9 : ysl 28 = _ := (hy 28).symm.trans d9
      clear hdep hL hy d8 d9
      simp only [List.foldl, List.setIfInBounds_toArray, List.set_cons_succ, List.set_cons_zero, e8, e9] at ha
      subst ha
      clear e8 e9
      refine wpOp_step rfl (fun K hK => ?_)
      go_simp
      exact hK _ _ ⟨_, rfl, (fun h => by cases h), rfl, .inl (Below.refl _ _)⟩
    · cases ho
      intro act u hF hL hdep
      have d8 := hdep { on := 8, ground := .guard } (by simp) rfl (fun p hp h => by simp at hp; try subst hp; first | rfl | exact absurd h (by decide)) _ rfl
      have d10 := hdep { on := 10, ground := .data } (by simp) rfl (fun p hp h => by simp at hp; try subst hp; first | rfl | exact absurd h (by decide)) _ rfl
      obtain ⟨ysl, ha, hy⟩ := hL.puts [19, 20, 21, 22, 23, 24, 25, 26, 27, 28, 29, 30, 31, 32, 33, 34, 35, 36, 37, 38, 39, 40, 41, 42, 43, 44, 45, 46, 2] (by kernel_rfl)
      have e8 : ysl 27 = _ := (hy 27).symm.trans d8
      have e10 : ysl 29 = _ := (hy 29).symm.trans d10
      clear hdep hL hy d8 d10
      simp only [List.foldl, List.setIfInBounds_toArray, List.set_cons_succ, List.set_cons_zero, e8, e10] at ha
      subst ha
      clear e8 e10
      refine wpOp_step rfl (fun K hK => ?_)
      go_simp
      exact hK _ _ ⟨_, rfl, (fun h => by cases h), rfl, .inl (Below.refl _ _)⟩
    · cases ho
      intro act u hF hL hdep
      have d8 := hdep { on := 8, ground := .guard } (by simp) rfl (fun p hp h => by simp at hp; try subst hp; first | rfl | exact absurd h (by decide)) _ rfl
      have d11 := hdep { on := 11, ground := .data } (by simp) rfl (fun p hp h => by simp at hp; try subst hp; first | rfl | exact absurd h (by decide)) _ rfl
      obtain ⟨ysl, ha, hy⟩ := hL.puts [19, 20, 21, 22, 23, 24, 25, 26, 27, 28, 29, 30, 31, 32, 33, 34, 35, 36, 37, 38, 39, 40, 41, 42, 43, 44, 45, 46, 2] (by kernel_rfl)
      have e8 : ysl 27 = _ := (hy 27).symm.trans d8
      have e11 : ysl 30 = _ := (hy 30).symm.trans d11
      clear hdep hL hy d8 d11
      simp only [List.foldl, List.setIfInBounds_toArray, List.set_cons_succ, List.set_cons_zero, e8, e11] at ha
      subst ha
      clear e8 e11
      refine wpOp_step rfl (fun K hK => ?_)
      go_simp
      exact hK _ _ ⟨_, rfl, (fun h => by cases h), rfl, .inl (Below.refl _ _)⟩
    · cases ho
      intro act u hF hL hdep
      have d8 := hdep { on := 8, ground := .guard } (by simp) rfl (fun p hp h => by simp at hp; try subst hp; first | rfl | exact absurd h (by decide)) _ rfl
      have d12 := hdep { on := 12, ground := .data } (by simp) rfl (fun p hp h => by simp at hp; try subst hp; first | rfl | exact absurd h (by decide)) _ rfl
      obtain ⟨ysl, ha, hy⟩ := hL.puts [19, 20, 21, 22, 23, 24, 25, 26, 27, 28, 29, 30, 31, 32, 33, 34, 35, 36, 37, 38, 39, 40, 41, 42, 43, 44, 45, 46, 2] (by kernel_rfl)
      have e8 : ysl 27 = _ := (hy 27).symm.trans d8
      have e12 : ysl 31 = _ := (hy 31).symm.trans d12
      clear hdep hL hy d8 d12
      simp only [List.foldl, List.setIfInBounds_toArray, List.set_cons_succ, List.set_cons_zero, e8, e12] at ha
      subst ha
      clear e8 e12
      refine wpOp_step rfl (fun K hK => ?_)
      go_simp
      exact hK _ _ ⟨_, rfl, (fun h => by cases h), rfl, .inl (Below.refl _ _)⟩
    · cases ho
      intro act u hF hL hdep
      have d8 := hdep { on := 8, ground := .data } (by simp) rfl (fun p hp h => by simp at hp; try subst hp; first | rfl | exact absurd h (by decide)) _ rfl
      have d13 := hdep { on := 13, ground := .data } (by simp) rfl (fun p hp h => by simp at hp; try subst hp; first | rfl | exact absurd h (by decide)) _ rfl
      obtain ⟨ysl, ha, hy⟩ := hL.puts [19, 20, 21, 22, 23, 24, 25, 26, 27, 28, 29, 30, 31, 32, 33, 34, 35, 36, 37, 38, 39, 40, 41, 42, 43, 44, 45, 46, 2] (by kernel_rfl)
      have e8 : ysl 27 = _ := (hy 27).symm.trans d8
      have e13 : ysl 32 = _ := (hy 32).symm.trans d13
      clear hdep hL hy d8 d13
      simp only [List.foldl, List.setIfInBounds_toArray, List.set_cons_succ, List.set_cons_zero, e8, e13] at ha
      subst ha
      clear e8 e13
      refine wpOp_step rfl (fun K hK => ?_)
      go_simp
      exact hK _ _ ⟨_, rfl, (fun h => by cases h), rfl, .inl (Below.refl _ _)⟩
    · cases ho
      intro act u hF hL hdep
      have d14 := hdep { on := 14, ground := .data } (by simp) rfl (fun p hp h => by simp at hp; try subst hp; first | rfl | exact absurd h (by decide)) _ rfl
      obtain ⟨ysl, ha, hy⟩ := hL.puts [19, 20, 21, 22, 23, 24, 25, 26, 27, 28, 29, 30, 31, 32, 33, 34, 35, 36, 37, 38, 39, 40, 41, 42, 43, 44, 45, 46, 2] (by kernel_rfl)
      have e14 : ysl 33 = _ := (hy 33).symm.trans d14
      clear hdep hL hy d14
      simp only [List.foldl, List.setIfInBounds_toArray, List.set_cons_succ, List.set_cons_zero, e14] at ha
      subst ha
      clear e14
      refine wpOp_step rfl (fun K hK => ?_)
      go_simp
      exact hK _ _ ⟨_, rfl, (fun h => by cases h), rfl, .inl (Below.refl _ _)⟩
    · cases ho
      intro act u hF hL hdep
      have d15 := hdep { on := 15, ground := .guard } (by simp) rfl (fun p hp h => by simp at hp; try subst hp; first | rfl | exact absurd h (by decide)) _ rfl
      obtain ⟨ysl, ha, hy⟩ := hL.puts [19, 20, 21, 22, 23, 24, 25, 26, 27, 28, 29, 30, 31, 32, 33, 34, 35, 36, 37, 38, 39, 40, 41, 42, 43, 44, 45, 46, 2] (by kernel_rfl)
      have e15 : ysl 34 = _ := (hy 34).symm.trans d15
      clear hdep hL hy d15
      simp only [List.foldl, List.setIfInBounds_toArray, List.set_cons_succ, List.set_cons_zero, e15] at ha
      subst ha
      clear e15
      refine wpOp_step rfl (fun K hK => ?_)
      go_simp
      exact hK _ _ ⟨_, rfl, (fun h => by cases h), rfl, .inl (Below.refl _ _)⟩
    · cases ho
      intro act u hF hL hdep
      have d15 := hdep { on := 15, ground := .guard } (by simp) rfl (fun p hp h => by simp at hp; try subst hp; first | rfl | exact absurd h (by decide)) _ rfl
      have d16 := hdep { on := 16, ground := .data } (by simp) rfl (fun p hp h => by simp at hp; try subst hp; first | rfl | exact absurd h (by decide)) _ rfl
      obtain ⟨ysl, ha, hy⟩ := hL.puts [19, 20, 21, 22, 23, 24, 25, 26, 27, 28, 29, 30, 31, 32, 33, 34, 35, 36, 37, 38, 39, 40, 41, 42, 43, 44, 45, 46, 2] (by kernel_rfl)
      have e15 : ysl 34 = _ := (hy 34).symm.trans d15
      have e16 : ysl 35 = _ := (hy 35).symm.trans d16
      clear hdep hL hy d15 d16
      simp only [List.foldl, List.setIfInBounds_toArray, List.set_cons_succ, List.set_cons_zero, e15, e16] at ha
      subst ha
      clear e15 e16
      refine wpOp_step rfl (fun K hK => ?_)
      go_simp
      exact hK _ _ ⟨_, rfl, (fun h => by cases h), rfl, .inl (Below.refl _ _)⟩
    · cases ho
      intro act u hF hL hdep
      have d15 := hdep { on := 15, ground := .guard } (by simp) rfl (fun p hp h => by simp at hp; try subst hp; first | rfl | exact absurd h (by decide)) _ rfl
      have d17 := hdep { on := 17, ground := .data } (by simp) rfl (fun p hp h => by simp at hp; try subst hp; first | rfl | exact absurd h (by decide)) _ rfl
      obtain ⟨ysl, ha, hy⟩ := hL.puts [19, 20, 21, 22, 23, 24, 25, 26, 27, 28, 29, 30, 31, 32, 33, 34, 35, 36, 37, 38, 39, 40, 41, 42, 43, 44, 45, 46, 2] (by kernel_rfl)
      have e15 : ysl 34 = _ := (hy 34).symm.trans d15
      have e17 : ysl 36 = _ := (hy 36).symm.trans d17
      clear hdep hL hy d15 d17
      simp only [List.foldl, List.setIfInBounds_toArray, List.set_cons_succ, List.set_cons_zero, e15, e17] at ha
      subst ha
      clear e15 e17
      refine wpOp_step rfl (fun K hK => ?_)
      go_simp
      exact hK _ _ ⟨_, rfl, (fun h => by cases h), rfl, .inl (Below.refl _ _)⟩
    · cases ho
      intro act u hF hL hdep
      have d15 := hdep { on := 15, ground := .guard } (by simp) rfl (fun p hp h => by simp at hp; try subst hp; first | rfl | exact absurd h (by decide)) _ rfl
      have d18 := hdep { on := 18, ground := .data } (by simp) rfl (fun p hp h => by simp at hp; try subst hp; first | rfl | exact absurd h (by decide)) _ rfl
      obtain ⟨ysl, ha, hy⟩ := hL.puts [19, 20, 21, 22, 23, 24, 25, 26, 27, 28, 29, 30, 31, 32, 33, 34, 35, 36, 37, 38, 39, 40, 41, 42, 43, 44, 45, 46, 2] (by kernel_rfl)
      have e15 : ysl 34 = _ := (hy 34).symm.trans d15
      have e18 : ysl 37 = _ := (hy 37).symm.trans d18
      clear hdep hL hy d15 d18
      simp only [List.foldl, List.setIfInBounds_toArray, List.set_cons_succ, List.set_cons_zero, e15, e18] at ha
      subst ha
      clear e15 e18
      refine wpOp_step rfl (fun K hK => ?_)
      go_simp
      exact hK _ _ ⟨_, rfl, (fun h => by cases h), rfl, .inl (Below.refl _ _)⟩
    · cases ho
      intro act u hF hL hdep
      have d15 := hdep { on := 15, ground := .guard } (by simp) rfl (fun p hp h => by simp at hp; try subst hp; first | rfl | exact absurd h (by decide)) _ rfl
      have d19 := hdep { on := 19, ground := .data } (by simp) rfl (fun p hp h => by simp at hp; try subst hp; first | rfl | exact absurd h (by decide)) _ rfl
      obtain ⟨ysl, ha, hy⟩ := hL.puts [19, 20, 21, 22, 23, 24, 25, 26, 27, 28, 29, 30, 31, 32, 33, 34, 35, 36, 37, 38, 39, 40, 41, 42, 43, 44, 45, 46, 2] (by kernel_rfl)
      have e15 : ysl 34 = _ := (hy 34).symm.trans d15
      have e19 : ysl 38 = _ := (hy 38).symm.trans d19
      clear hdep hL hy d15 d19
      simp only [List.foldl, List.setIfInBounds_toArray, List.set_cons_succ, List.set_cons_zero, e15, e19] at ha
      subst ha
      clear e15 e19
      refine wpOp_step rfl (fun K hK => ?_)
      go_simp
      exact hK _ _ ⟨_, rfl, (fun h => by cases h), rfl, .inl (Below.refl _ _)⟩
    · cases ho
      intro act u hF hL hdep
      have d15 := hdep { on := 15, ground := .data } (by simp) rfl (fun p hp h => by simp at hp; try subst hp; first | rfl | exact absurd h (by decide)) _ rfl
      have d20 := hdep { on := 20, ground := .data } (by simp) rfl (fun p hp h => by simp at hp; try subst hp; first | rfl | exact absurd h (by decide)) _ rfl
      obtain ⟨ysl, ha, hy⟩ := hL.puts [19, 20, 21, 22, 23, 24, 25, 26, 27, 28, 29, 30, 31, 32, 33, 34, 35, 36, 37, 38, 39, 40, 41, 42, 43, 44, 45, 46, 2] (by kernel_rfl)
      have e15 : ysl 34 = _ := (hy 34).symm.trans d15
      have e20 : ysl 39 = _ := (hy 39).symm.trans d20
      clear hdep hL hy d15 d20
      simp only [List.foldl, List.setIfInBounds_toArray, List.set_cons_succ, List.set_cons_zero, e15, e20] at ha
      subst ha
      clear e15 e20
      refine wpOp_step rfl (fun K hK => ?_)
      go_simp
      exact hK _ _ ⟨_, rfl, (fun h => by cases h), rfl, .inl (Below.refl _ _)⟩
    · cases ho
      intro act u hF hL hdep
      have d21 := hdep { on := 21, ground := .data } (by simp) rfl (fun p hp h => by simp at hp; try subst hp; first | rfl | exact absurd h (by decide)) _ rfl
      obtain ⟨ysl, ha, hy⟩ := hL.puts [19, 20, 21, 22, 23, 24, 25, 26, 27, 28, 29, 30, 31, 32, 33, 34, 35, 36, 37, 38, 39, 40, 41, 42, 43, 44, 45, 46, 2] (by kernel_rfl)
      have e21 : ysl 40 = _ := (hy 40).symm.trans d21
      clear hdep hL hy d21
      simp only [List.foldl, List.setIfInBounds_toArray, List.set_cons_succ, List.set_cons_zero, e21] at ha
      subst ha
      clear e21
      refine wpOp_step rfl (fun K hK => ?_)
      go_simp
      exact hK _ _ ⟨_, rfl, (fun h => by cases h), rfl, .inl (Below.refl _ _)⟩
    · cases ho
      intro act u hF hL hdep
      have d22 := hdep { on := 22, ground := .guard } (by simp) rfl (fun p hp h => by simp at hp; try subst hp; first | rfl | exact absurd h (by decide)) _ rfl
      obtain ⟨ysl, ha, hy⟩ := hL.puts [19, 20, 21, 22, 23, 24, 25, 26, 27, 28, 29, 30, 31, 32, 33, 34, 35, 36, 37, 38, 39, 40, 41, 42, 43, 44, 45, 46, 2] (by kernel_rfl)
      have e22 : ysl 41 = _ := (hy 41).symm.trans d22
      clear hdep hL hy d22
      simp only [List.foldl, List.setIfInBounds_toArray, List.set_cons_succ, List.set_cons_zero, e22] at ha
      subst ha
      clear e22
      refine wpOp_step rfl (fun K hK => ?_)
      go_simp
      exact hK _ _ ⟨_, rfl, (fun h => by cases h), rfl, .inl (Below.refl _ _)⟩
    · cases ho
      intro act u hF hL hdep
      have d22 := hdep { on := 22, ground := .guard } (by simp) rfl (fun p hp h => by simp at hp; try subst hp; first | rfl | exact absurd h (by decide)) _ rfl
      have d23 := hdep { on := 23, ground := .data } (by simp) rfl (fun p hp h => by simp at hp; try subst hp; first | rfl | exact absurd h (by decide)) _ rfl
      obtain ⟨ysl, ha, hy⟩ := hL.puts [19, 20, 21, 22, 23, 24, 25, 26, 27, 28, 29, 30, 31, 32, 33, 34, 35, 36, 37, 38, 39, 40, 41, 42, 43, 44, 45, 46, 2] (by kernel_rfl)
      have e22 : ysl 41 = _ := (hy 41).symm.trans d22
      have e23 : ysl 42 = _ := (hy 42).symm.trans d23
      clear hdep hL hy d22 d23
      simp only [List.foldl, List.setIfInBounds_toArray, List.set_cons_succ, List.set_cons_zero, e22, e23] at ha
      subst ha
      clear e22 e23
      refine wpOp_step rfl (fun K hK => ?_)
      go_simp
      exact hK _ _ ⟨_, rfl, (fun h => by cases h), rfl, .inl (Below.refl _ _)⟩
    · cases ho
      intro act u hF hL hdep
      have d22 := hdep { on := 22, ground := .guard } (by simp) rfl (fun p hp h => by simp at hp; try subst hp; first | rfl | exact absurd h (by decide)) _ rfl
      have d24 := hdep { on := 24, ground := .data } (by simp) rfl (fun p hp h => by simp at hp; try subst hp; first | rfl | exact absurd h (by decide)) _ rfl
      obtain ⟨ysl, ha, hy⟩ := hL.puts [19, 20, 21, 22, 23, 24, 25, 26, 27, 28, 29, 30, 31, 32, 33, 34, 35, 36, 37, 38, 39, 40, 41, 42, 43, 44, 45, 46, 2] (by kernel_rfl)
      have e22 : ysl 41 = _ := (hy 41).symm.trans d22
      have e24 : ysl 43 = _ := (hy 43).symm.trans d24
      clear hdep hL hy d22 d24
      simp only [List.foldl, List.setIfInBounds_toArray, List.set_cons_succ, List.set_cons_zero, e22, e24] at ha
      subst ha
      clear e22 e24
      refine wpOp_step rfl (fun K hK => ?_)
      go_simp
      exact hK _ _ ⟨_, rfl, (fun h => by cases h), rfl, .inl (Below.refl _ _)⟩
    · cases ho
      intro act u hF hL hdep
      have d22 := hdep { on := 22, ground := .guard } (by simp) rfl (fun p hp h => by simp at hp; try subst hp; first | rfl | exact absurd h (by decide)) _ rfl
      have d25 := hdep { on := 25, ground := .data } (by simp) rfl (fun p hp h => by simp at hp; try subst hp; first | rfl | exact absurd h (by decide)) _ rfl
      obtain ⟨ysl, ha, hy⟩ := hL.puts [19, 20, 21, 22, 23, 24, 25, 26, 27, 28, 29, 30, 31, 32, 33, 34, 35, 36, 37, 38, 39, 40, 41, 42, 43, 44, 45, 46, 2] (by kernel_rfl)
      have e22 : ysl 41 = _ := (hy 41).symm.trans d22
      have e25 : ysl 44 = _ := (hy 44).symm.trans d25
      clear hdep hL hy d22 d25
      simp only [List.foldl, List.setIfInBounds_toArray, List.set_cons_succ, List.set_cons_zero, e22, e25] at ha
      subst ha
      clear e22 e25
      refine wpOp_step rfl (fun K hK => ?_)
      go_simp
      exact hK _ _ ⟨_, rfl, (fun h => by cases h), rfl, .inl (Below.refl _ _)⟩
    · cases ho
      intro act u hF hL hdep
      have d22 := hdep { on := 22, ground := .data } (by simp) rfl (fun p hp h => by simp at hp; try subst hp; first | rfl | exact absurd h (by decide)) _ rfl
      have d26 := hdep { on := 26, ground := .data } (by simp) rfl (fun p hp h => by simp at hp; try subst hp; first | rfl | exact absurd h (by decide)) _ rfl
      obtain ⟨ysl, ha, hy⟩ := hL.puts [19, 20, 21, 22, 23, 24, 25, 26, 27, 28, 29, 30, 31, 32, 33, 34, 35, 36, 37, 38, 39, 40, 41, 42, 43, 44, 45, 46, 2] (by kernel_rfl)
      have e22 : ysl 41 = _ := (hy 41).symm.trans d22
      have e26 : ysl 45 = _ := (hy 45).symm.trans d26
      clear hdep hL hy d22 d26
      simp only [List.foldl, List.setIfInBounds_toArray, List.set_cons_succ, List.set_cons_zero, e22, e26] at ha
      subst ha
      clear e22 e26
      refine wpOp_step rfl (fun K hK => ?_)
      go_simp
      exact hK _ _ ⟨_, rfl, (fun h => by cases h), rfl, .inl (Below.refl _ _)⟩
    · cases ho
      intro act u hF hL hdep
      have d27 := hdep { on := 27, ground := .data } (by simp) rfl (fun p hp h => by simp at hp; try subst hp; first | rfl | exact absurd h (by decide)) _ rfl
      obtain ⟨ysl, ha, hy⟩ := hL.puts [19, 20, 21, 22, 23, 24, 25, 26, 27, 28, 29, 30, 31, 32, 33, 34, 35, 36, 37, 38, 39, 40, 41, 42, 43, 44, 45, 46, 2] (by kernel_rfl)
      have e27 : ysl 46 = _ := (hy 46).symm.trans d27
      clear hdep hL hy d27
      simp only [List.foldl, List.setIfInBounds_toArray, List.set_cons_succ, List.set_cons_zero, e27] at ha
      subst ha
      clear e27
      refine wpOp_step rfl (fun K hK => ?_)
      go_simp
      exact hK _ _ ⟨_, rfl, (fun h => by cases h), rfl, .inl (Below.refl _ _)⟩
    · exact absurd ho (by simp)
  case fin =>
    intro act u hF hL hsf
    have d28 := hsf 28 _ rfl (fun p hp => by simp at hp; try subst hp; decide)
    obtain ⟨ysl, ha, hy⟩ := hL.puts [19, 20, 21, 22, 23, 24, 25, 26, 27, 28, 29, 30, 31, 32, 33, 34, 35, 36, 37, 38, 39, 40, 41, 42, 43, 44, 45, 46, 2] (by kernel_rfl)
    have e28 : ysl 2 = _ := (hy 2).symm.trans d28
    clear hL hsf hy d28
    simp only [List.foldl, List.setIfInBounds_toArray, List.set_cons_succ, List.set_cons_zero, e28] at ha
    subst ha
    clear e28
    have HFu := Lib.hid (Fr.trans HF1.out hF)
    clear hF
    go_wp2_with fail
    go_ret
    exact ⟨rfl, HFu.out⟩
set_option maxRecDepth 8000 in
set_option maxHeartbeats 4000000 in
theorem spec_NamOk_m (M F V : List Int) (H : List Bool) (aM aF aV aH : Option Addr) (cM cF cV cH : Nat) (w : World) (h : SrcN w ⟨M, F, V, H⟩ aM aF aV aH) (hf : Few6 ⟨M, F, V, H⟩) (h1 : M.length = 8) (h2 : H.length = 20) (h3 : wordsB V 20 = true) (h4 : apB (M ++ F) = true) (h5 : (M.getD 0 0 == 0) = false) :
    Calls Try.prog 24 #[.agg #[.slice aM M.length cM, .slice aF F.length cF, .slice aV V.length cV, .slice aH H.length cH]] w fun e w' => e = .returned (.bool false) ∧ Fr w w' := by
  obtain ⟨hM, hF, hV, hH⟩ := h
  obtain ⟨fM, fF, fV, fH⟩ := hf
  simp only at hM hF hV hH fM fF fV fH
  have F1 := Fr.alloc w (.cells #[.slice aM M.length cM, .slice aF F.length cF, .slice aV V.length cV, .slice aH H.length cH] 25)
  have HB := Lib.hid (Box4.new w (.slice aM M.length cM) (.slice aF F.length cF) (.slice aV V.length cV) (.slice aH H.length cH) 25 _ rfl)
  have E3 := spec_l4Words V aV cV 20 _ (hV.fr F1) (by omega)
  rw [show (20 : Int) = ((20 : Nat) : Int) from rfl, words_eq, h3] at E3
  have X3 := Lib.hid E3
  obtain ⟨hVk, hVl⟩ := wordsB_true h3
  obtain ⟨i0, hi, hz0, hz1, hz2⟩ := info_parts info_intV
  have hne1 : ((M.length : Int) != 8) = false := by simp; omega
  have hne2 : ((H.length : Int) != 20) = false := by simp; omega
  obtain ⟨gM, oM, rfl, lM, kM⟩ := hM (by omega)
  obtain ⟨gV, oV, rfl, lV, kV⟩ := hV (by omega)
  obtain ⟨gH, oH, rfl, lH, kH⟩ := hH (by omega)
  have HLM := Lib.hid h1
  have HLV := Lib.hid hVl
  have HLH := Lib.hid h2
  obtain ⟨MF, hMF⟩ : ∃ MF, M ++ F = MF := ⟨_, rfl⟩
  rw [hMF] at h4
  have HMF := Lib.hid hMF
  have HAP := Lib.hid h4
  have HF1 := Lib.hid F1
  have KM := Lib.hid (fun (u : World) (f : Fr (w.alloc (.cells #[.slice (some ⟨gM, oM, none⟩) M.length cM, .slice aF F.length cF, .slice (some ⟨gV, oV, none⟩) V.length cV, .slice (some ⟨gH, oH, none⟩) H.length cH] 25)) u) => show ∀ i, i < M.length → u.cell? ⟨gM, oM + i, none⟩ = some (ivl M i) from fun i hi => by rw [(Fr.trans HF1.out f).cell lM]; exact kM i hi)
  have KM0 := Lib.hid (fun (u : World) (f : Fr (w.alloc (.cells #[.slice (some ⟨gM, oM, none⟩) M.length cM, .slice aF F.length cF, .slice (some ⟨gV, oV, none⟩) V.length cV, .slice (some ⟨gH, oH, none⟩) H.length cH] 25)) u) => show u.cell? ⟨gM, oM, none⟩ = some (.int .i64 (M.getD 0 0)) from KM.out u f 0 (by omega))
  have KV0 := Lib.hid (fun (u : World) (f : Fr (w.alloc (.cells #[.slice (some ⟨gM, oM, none⟩) M.length cM, .slice aF F.length cF, .slice (some ⟨gV, oV, none⟩) V.length cV, .slice (some ⟨gH, oH, none⟩) H.length cH] 25)) u) => show u.cell? ⟨gV, oV, none⟩ = some (.int .i64 (V.getD 0 0)) from by rw [(Fr.trans HF1.out f).cell lV]; exact kV 0 (by omega))
  have KH0 := Lib.hid (fun (u : World) (f : Fr (w.alloc (.cells #[.slice (some ⟨gM, oM, none⟩) M.length cM, .slice aF F.length cF, .slice (some ⟨gV, oV, none⟩) V.length cV, .slice (some ⟨gH, oH, none⟩) H.length cH] 25)) u) => show u.cell? ⟨gH, oH, none⟩ = some (.bool (H.getD 0 false)) from by rw [(Fr.trans HF1.out f).cell lH]; exact kH 0 (by omega))
  have HSF := Lib.hid (fun (u : World) (f : Fr (w.alloc (.cells #[.slice (some ⟨gM, oM, none⟩) M.length cM, .slice aF F.length cF, .slice (some ⟨gV, oV, none⟩) V.length cV, .slice (some ⟨gH, oH, none⟩) H.length cH] 25)) u) => show 0 < F.length → ∃ g o, aF = some ⟨g, o, none⟩ ∧ ∀ i, i < F.length → u.cell? ⟨g, o + i, none⟩ = some (ivl F i) from fun h0 => by
    obtain ⟨g, o, e, l, k⟩ := hF h0
    exact ⟨g, o, e, fun i hi => by rw [(Fr.trans HF1.out f).cell l]; exact k i hi⟩)
  generalize M.getD 0 0 = m0 at *
  generalize V.getD 0 0 = v0 at *
  generalize H.getD 0 false = b0 at *
  have HM0 := Lib.hid h5
  clear h5
  clear hMF h1 h2 h3 h4 hVk hVl kM kV kH hF hH E3 lM lV lH F1
  go_enter Try.func24, Try.ntmps24
  go_wp2_with fail
  refine X3.out.mono ?_
  rintro e w' ⟨rfl, rfl⟩
  go_wp2_with fail
  generalize (w.alloc (.cells #[.slice (some ⟨gM, oM, none⟩) M.length cM, .slice aF F.length cF, .slice (some ⟨gV, oV, none⟩) V.length cV, .slice (some ⟨gH, oH, none⟩) H.length cH] 25)) = u0 at *
  refine wp_region_spend 47 [(6, 3)] (fun i v u => match i with | 0 => ∃ g, v = .slice (some ⟨g, 0, none⟩) 0 0 | 1 => v = .pointer (some ⟨w.heap.size, 0, none⟩) | 2 => v = .slice (some ⟨gM, oM, none⟩) M.length cM | 3 => ∃ g c, v = .slice (some ⟨g, 0, none⟩) M.length c ∧ u0.heap.size ≤ g ∧ Ro u g M ∧ Ca u g M.length c | 4 => v = .pointer (some ⟨w.heap.size, 1, none⟩) | 5 => v = .slice aF F.length cF | 6 => ∃ ao c, v = .slice ao MF.length c ∧ Src u MF.length (ivl MF) ao ∧ MF.length ≤ c | 7 => v = .bool true | 8 => v = .bool true | 9 => v = .pointer (some ⟨w.heap.size, 0, none⟩) | 10 => v = .slice (some ⟨gM, oM, none⟩) M.length cM | 11 => v = .pointer (some ⟨gM, oM, none⟩) | 12 => v = .int .i64 m0 | 13 => v = .bool false | 14 => v = .bool false | 15 => v = .bool false | 16 => v = undef | 17 => v = undef | 18 => v = undef | 19 => v = undef | 20 => v = undef | 21 => v = .bool false | 22 => v = .bool false | 23 => v = undef | 24 => v = undef | 25 => v = undef | 26 => v = undef | 27 => v = .bool false | 28 => v = .bool false | _ => True) ?mono ?mono2 (by kernel_rfl) (by kernel_rfl) rfl (by kernel_rfl) ?step ?fin
  case mono =>
    intro j v u u' hsz h f
    rcases j with _ | _ | _ | _ | _ | _ | _ | _ | _ | _ | _ | _ | _ | _ | _ | _ | _ | _ | _ | _ | _ | _ | _ | _ | _ | _ | _ | _ | _ | j
    · exact h
    · exact h
    · exact h
    · obtain ⟨g, c, e, hb, r, k⟩ := h
      exact ⟨g, c, e, hb, r.fr f, k.but (L := []) (But.of f) (by simp)⟩
    · exact h
    · exact h
    · obtain ⟨ao, c, e, s, k⟩ := h
      exact ⟨ao, c, e, s.fr f, k⟩
    · exact h
    · exact h
    · exact h
    · exact h
    · exact h
    · exact h
    · exact h
    · exact h
    · exact h
    · exact h
    · exact h
    · exact h
    · exact h
    · exact h
    · exact h
    · exact h
    · exact h
    · exact h
    · exact h
    · exact h
    · exact h
    · exact h
    · trivial
  case mono2 =>
    intro j v u u' g hsz hne h hg f
    rcases j with _ | _ | _ | _ | _ | _ | _ | _ | _ | _ | _ | _ | _ | _ | _ | _ | _ | _ | _ | _ | _ | _ | _ | _ | _ | _ | _ | _ | _ | j
    · exact h
    · exact h
    · exact h
    · exact absurd rfl (hne (6, 3) (by simp)).1
    · exact h
    · exact h
    · exact absurd rfl (hne (6, 3) (by simp)).2
    · exact h
    · exact h
    · exact h
    · exact h
    · exact h
    · exact h
    · exact h
    · exact h
    · exact h
    · exact h
    · exact h
    · exact h
    · exact h
    · exact h
    · exact h
    · exact h
    · exact h
    · exact h
    · exact h
    · exact h
    · exact h
    · exact h
    · trivial
  case step =>
    intro i o ho
    rcases i with _ | _ | _ | _ | _ | _ | _ | _ | _ | _ | _ | _ | _ | _ | _ | _ | _ | _ | _ | _ | _ | _ | _ | _ | _ | _ | _ | _ | _ | i
    · cases ho
      intro act u hF hL hdep
      obtain ⟨ysl, ha, hy⟩ := hL.puts [19, 20, 21, 22, 23, 24, 25, 26, 27, 28, 29, 30, 31, 32, 33, 34, 35, 36, 37, 38, 39, 40, 41, 42, 43, 44, 45, 46, 2] (by kernel_rfl)
      clear hdep hL hy
      simp only [List.foldl, List.setIfInBounds_toArray, List.set_cons_succ, List.set_cons_zero] at ha
      subst ha
      refine wpOp_step rfl (fun K hK => ?_)
      go_simp
      exact hK _ _ ⟨_, rfl, (fun h => by cases h), ⟨_, rfl⟩, .inl (Fr.alloc _ _)⟩
    · cases ho
      intro act u hF hL hdep
      obtain ⟨ysl, ha, hy⟩ := hL.puts [19, 20, 21, 22, 23, 24, 25, 26, 27, 28, 29, 30, 31, 32, 33, 34, 35, 36, 37, 38, 39, 40, 41, 42, 43, 44, 45, 46, 2] (by kernel_rfl)
      clear hdep hL hy
      simp only [List.foldl, List.setIfInBounds_toArray, List.set_cons_succ, List.set_cons_zero] at ha
      subst ha
      refine wpOp_step rfl (fun K hK => ?_)
      go_simp
      exact hK _ _ ⟨_, rfl, (fun h => by cases h), rfl, .inl (Below.refl _ _)⟩
    · cases ho
      intro act u hF hL hdep
      have d1 := hdep { on := 1, ground := .data } (by simp) rfl (fun p hp h => by simp at hp; try subst hp; first | rfl | exact absurd h (by decide)) _ rfl
      obtain ⟨ysl, ha, hy⟩ := hL.puts [19, 20, 21, 22, 23, 24, 25, 26, 27, 28, 29, 30, 31, 32, 33, 34, 35, 36, 37, 38, 39, 40, 41, 42, 43, 44, 45, 46, 2] (by kernel_rfl)
      have e1 : ysl 20 = _ := (hy 20).symm.trans d1
      clear hdep hL hy d1
      simp only [List.foldl, List.setIfInBounds_toArray, List.set_cons_succ, List.set_cons_zero, e1] at ha
      subst ha
      clear e1
      obtain ⟨_, c0, c1, c2, c3, _, _, _, _⟩ := HB.out.fr hF
      refine wpOp_step rfl (fun K hK => ?_)
      go_simp
      exact hK _ _ ⟨_, rfl, (fun h => by cases h), rfl, .inl (Below.refl _ _)⟩
    · cases ho
      intro act u hF hL hdep
      have d0 := hdep { on := 0, ground := .data } (by simp) rfl (fun p hp h => by simp at hp; try subst hp; first | rfl | exact absurd h (by decide)) _ rfl
      have d2 := hdep { on := 2, ground := .data } (by simp) rfl (fun p hp h => by simp at hp; try subst hp; first | rfl | exact absurd h (by decide)) _ rfl
      obtain ⟨ysl, ha, hy⟩ := hL.puts [19, 20, 21, 22, 23, 24, 25, 26, 27, 28, 29, 30, 31, 32, 33, 34, 35, 36, 37, 38, 39, 40, 41, 42, 43, 44, 45, 46, 2] (by kernel_rfl)
      obtain ⟨g0, h0⟩ := d0
      have e0 : ysl 19 = .slice (some ⟨g0, 0, none⟩) 0 0 := (hy 19).symm.trans h0
      have e2 : ysl 21 = _ := (hy 21).symm.trans d2
      clear hdep hL hy d2 h0
      simp only [List.foldl, List.setIfInBounds_toArray, List.set_cons_succ, List.set_cons_zero, e0, e2] at ha
      subst ha
      clear e0 e2
      refine wpOp_step rfl (fun K hK => ?_)
      rw [if_pos (by simp [Region.wanted])]
      refine wp_append_new _ _ 22 rfl 3 i0 (.int .i64 0) Try.underlying22 hi hz0 hz1 hz2 _ rfl ⟨gM, oM, none⟩ _ _ (M.map (Value.int .i64)) rfl (by simp) (cells_of M (KM.out u hF)) (ints_one _) (by have := HLM.out; omega) (by have := HLM.out; omega) ?_
      intro cp zs hzs
      refine hK _ _ ⟨_, rfl, (fun h => by cases h), ⟨_, cp, rfl, hF.size, ro_new u.drew M zs _, ca_new u.drew M zs cp (hzs rfl)⟩, .inl ((Below.drew (Below.refl _ _)).alloc (Nat.le_refl _) _)⟩
    · cases ho
      intro act u hF hL hdep
      obtain ⟨ysl, ha, hy⟩ := hL.puts [19, 20, 21, 22, 23, 24, 25, 26, 27, 28, 29, 30, 31, 32, 33, 34, 35, 36, 37, 38, 39, 40, 41, 42, 43, 44, 45, 46, 2] (by kernel_rfl)
      clear hdep hL hy
      simp only [List.foldl, List.setIfInBounds_toArray, List.set_cons_succ, List.set_cons_zero] at ha
      subst ha
      refine wpOp_step rfl (fun K hK => ?_)
      go_simp
      exact hK _ _ ⟨_, rfl, (fun h => by cases h), rfl, .inl (Below.refl _ _)⟩
    · cases ho
      intro act u hF hL hdep
      have d4 := hdep { on := 4, ground := .data } (by simp) rfl (fun p hp h => by simp at hp; try subst hp; first | rfl | exact absurd h (by decide)) _ rfl
      obtain ⟨ysl, ha, hy⟩ := hL.puts [19, 20, 21, 22, 23, 24, 25, 26, 27, 28, 29, 30, 31, 32, 33, 34, 35, 36, 37, 38, 39, 40, 41, 42, 43, 44, 45, 46, 2] (by kernel_rfl)
      have e4 : ysl 23 = _ := (hy 23).symm.trans d4
      clear hdep hL hy d4
      simp only [List.foldl, List.setIfInBounds_toArray, List.set_cons_succ, List.set_cons_zero, e4] at ha
      subst ha
      clear e4
      obtain ⟨_, c0, c1, c2, c3, _, _, _, _⟩ := HB.out.fr hF
      refine wpOp_step rfl (fun K hK => ?_)
      go_simp
      exact hK _ _ ⟨_, rfl, (fun h => by cases h), rfl, .inl (Below.refl _ _)⟩
    · cases ho
      intro act u hF hL hdep
      have d3 := hdep { on := 3, ground := .data } (by simp) rfl (fun p hp h => by simp at hp; try subst hp; first | rfl | exact absurd h (by decide)) _ rfl
      have d5 := hdep { on := 5, ground := .data } (by simp) rfl (fun p hp h => by simp at hp; try subst hp; first | rfl | exact absurd h (by decide)) _ rfl
      obtain ⟨ysl, ha, hy⟩ := hL.puts [19, 20, 21, 22, 23, 24, 25, 26, 27, 28, 29, 30, 31, 32, 33, 34, 35, 36, 37, 38, 39, 40, 41, 42, 43, 44, 45, 46, 2] (by kernel_rfl)
      obtain ⟨g3, c3, h3, b3, r3, k3⟩ := d3
      have e3 : ysl 22 = .slice (some ⟨g3, 0, none⟩) M.length c3 := (hy 22).symm.trans h3
      have e5 : ysl 24 = _ := (hy 24).symm.trans d5
      clear hdep hL hy d5 h3
      simp only [List.foldl, List.setIfInBounds_toArray, List.set_cons_succ, List.set_cons_zero, e3, e5] at ha
      subst ha
      clear e3 e5
      by_cases hz : F.length = 0
      · have hn : M = MF := by rw [← HMF.out, List.length_eq_zero_iff.1 hz, List.append_nil]
        rw [hz]
        refine wpOp_step rfl (fun K hK => ?_)
        rw [if_pos (by simp [Region.wanted])]
        refine wp_append_zero _ _ 22 rfl 3 i0 Try.underlying22 hi _ M.length c3 (by obtain ⟨_, _, _, hq, _⟩ := k3; exact hq) rfl _ _ rfl ?_
        refine hK _ _ ⟨_, rfl, (fun h => by cases h), ⟨_, c3, by rw [hn], by rw [← hn]; exact r3.src, by obtain ⟨_, _, _, hq, _⟩ := k3; rw [← hn]; exact hq⟩, .inl (Below.refl _ _)⟩
      · obtain ⟨gF, oF, rfl, kF⟩ := HSF.out u hF (by omega)
        refine wpOp_append_own_at rfl rfl _ _ 22 rfl u0.heap.size 3 i0 (.int .i64 0) 1 8 Try.underlying22 hi hz0 hz1 hz2 rfl (by decide) _ M.length (M.map (Value.int .i64)) rfl (ca_own k3 r3 b3) ⟨gF, oF, none⟩ F.length cF (F.map (Value.int .i64)) rfl (by simp) (cells_of F kF) (ints_one _) (by have := HLM.out; have : maxLen = 9223372036854775807 := rfl; omega) (by have := HLM.out; omega) hF.size ?_
        intro v' w' ho hg _
        rw [← List.map_append, HMF.out] at ho
        obtain ⟨ao, cp, rfl, hs, hc⟩ := own_row ho
        exact ⟨_, rfl, (fun h => by cases h), ⟨ao, cp, rfl, hs, hc⟩, .inr ⟨⟨3, by simp, fun p hp => by simpa using hp⟩, g3, b3, but_grown hg⟩⟩
    · cases ho
      intro act u hF hL hdep
      have d6 := hdep { on := 6, ground := .data } (by simp) rfl (fun p hp h => by simp at hp; try subst hp; first | rfl | exact absurd h (by decide)) _ rfl
      obtain ⟨ysl, ha, hy⟩ := hL.puts [19, 20, 21, 22, 23, 24, 25, 26, 27, 28, 29, 30, 31, 32, 33, 34, 35, 36, 37, 38, 39, 40, 41, 42, 43, 44, 45, 46, 2] (by kernel_rfl)
      obtain ⟨ao6, c6, h6, s6, k6⟩ := d6
      have e6 : ysl 25 = .slice ao6 MF.length c6 := (hy 25).symm.trans h6
      clear hdep hL hy h6
      simp only [List.foldl, List.setIfInBounds_toArray, List.set_cons_succ, List.set_cons_zero, e6] at ha
      subst ha
      clear e6
      refine wpOp_step rfl (fun K hK => ?_)
      go_simp
      refine (spec_l6Apart MF _ _ u s6 (by have := HLM.out; rw [← HMF.out]; simp; omega) k6).mono ?_
      rintro e u' ⟨rfl, m7, hm7⟩
      rw [HAP.out]
      go_simp
      exact hK _ _ ⟨_, rfl, (fun h => by cases h), rfl, .inl (by rw [← hm7]; exact Below.drewN (Below.refl _ _) _)⟩
    · cases ho
      intro act u hF hL hdep
      have d7 := hdep { on := 7, ground := .data } (by simp) rfl (fun p hp h => by simp at hp; try subst hp; first | rfl | exact absurd h (by decide)) _ rfl
      obtain ⟨ysl, ha, hy⟩ := hL.puts [19, 20, 21, 22, 23, 24, 25, 26, 27, 28, 29, 30, 31, 32, 33, 34, 35, 36, 37, 38, 39, 40, 41, 42, 43, 44, 45, 46, 2] (by kernel_rfl)
      have e7 : ysl 26 = _ := (hy 26).symm.trans d7
      clear hdep hL hy d7
      simp only [List.foldl, List.setIfInBounds_toArray, List.set_cons_succ, List.set_cons_zero, e7] at ha
      subst ha
      clear e7
      refine wpOp_step rfl (fun K hK => ?_)
      go_simp
      exact hK _ _ ⟨_, rfl, (fun h => by cases h), rfl, .inl (Below.refl _ _)⟩
    · cases ho
      intro act u hF hL hdep
      have d8 := hdep { on := 8, ground := .guard } (by simp) rfl (fun p hp h => by simp at hp; try subst hp; first | rfl | exact absurd h (by decide)) _ rfl
      obtain ⟨ysl, ha, hy⟩ := hL.puts [19, 20, 21, 22, 23, 24, 25, 26, 27, 28, 29, 30, 31, 32, 33, 34, 35, 36, 37, 38, 39, 40, 41, 42, 43, 44, 45, 46, 2] (by kernel_rfl)
      have e8 : ysl 27 = _ := (hy 27).symm.trans d8
      clear hdep hL hy d8
      simp only [List.foldl, List.setIfInBounds_toArray, List.set_cons_succ, List.set_cons_zero, e8] at ha
      subst ha
      clear e8
      refine wpOp_step rfl (fun K hK => ?_)
      go_simp
      exact hK _ _ ⟨_, rfl, (fun h => by cases h), rfl, .inl (Below.refl _ _)⟩
    · cases ho
      intro act u hF hL hdep
      have d8 := hdep { on := 8, ground := .guard } (by simp) rfl (fun p hp h => by simp at hp; try subst hp; first | rfl | exact absurd h (by decide)) _ rfl
      have d9 := hdep { on := 9, ground := .data } (by simp) rfl (fun p hp h => by simp at hp; try subst hp; first | rfl | exact absurd h (by decide)) _ rfl
      obtain ⟨ysl, ha, hy⟩ := hL.puts [19, 20, 21, 22, 23, 24, 25, 26, 27, 28, 29, 30, 31, 32, 33, 34, 35, 36, 37, 38, 39, 40, 41, 42, 43, 44, 45, 46, 2] (by kernel_rfl)
      have e8 : ysl 27 = _ := (hy 27).symm.trans d8
      have e9 : ysl 28 = _ := (hy 28).symm.trans d9
      clear hdep hL hy d8 d9
      simp only [List.foldl, List.setIfInBounds_toArray, List.set_cons_succ, List.set_cons_zero, e8, e9] at ha
      subst ha
      clear e8 e9
      obtain ⟨_, c0, c1, c2, c3, _, _, _, _⟩ := HB.out.fr hF
      refine wpOp_step rfl (fun K hK => ?_)
      go_simp
      exact hK _ _ ⟨_, rfl, (fun h => by cases h), rfl, .inl (Below.refl _ _)⟩
    · cases ho
      intro act u hF hL hdep
      have d8 := hdep { on := 8, ground := .guard } (by simp) rfl (fun p hp h => by simp at hp; try subst hp; first | rfl | exact absurd h (by decide)) _ rfl
      have d10 := hdep { on := 10, ground := .data } (by simp) rfl (fun p hp h => by simp at hp; try subst hp; first | rfl | exact absurd h (by decide)) _ rfl
      obtain ⟨ysl, ha, hy⟩ := hL.puts [19, 20, 21, 22, 23, 24, 25, 26, 27, 28, 29, 30, 31, 32, 33, 34, 35, 36, 37, 38, 39, 40, 41, 42, 43, 44, 45, 46, 2] (by kernel_rfl)
      have e8 : ysl 27 = _ := (hy 27).symm.trans d8
      have e10 : ysl 29 = _ := (hy 29).symm.trans d10
      clear hdep hL hy d8 d10
      simp only [List.foldl, List.setIfInBounds_toArray, List.set_cons_succ, List.set_cons_zero, e8, e10] at ha
      subst ha
      clear e8 e10
      have hl0 : 0 < M.length := by have := HLM.out; omega
      refine wpOp_step rfl (fun K hK => ?_)
      go_simp
      exact hK _ _ ⟨_, rfl, (fun h => by cases h), rfl, .inl (Below.refl _ _)⟩
    · cases ho
      intro act u hF hL hdep
      have d8 := hdep { on := 8, ground := .guard } (by simp) rfl (fun p hp h => by simp at hp; try subst hp; first | rfl | exact absurd h (by decide)) _ rfl
      have d11 := hdep { on := 11, ground := .data } (by simp) rfl (fun p hp h => by simp at hp; try subst hp; first | rfl | exact absurd h (by decide)) _ rfl
      obtain ⟨ysl, ha, hy⟩ := hL.puts [19, 20, 21, 22, 23, 24, 25, 26, 27, 28, 29, 30, 31, 32, 33, 34, 35, 36, 37, 38, 39, 40, 41, 42, 43, 44, 45, 46, 2] (by kernel_rfl)
      have e8 : ysl 27 = _ := (hy 27).symm.trans d8
      have e11 : ysl 30 = _ := (hy 30).symm.trans d11
      clear hdep hL hy d8 d11
      simp only [List.foldl, List.setIfInBounds_toArray, List.set_cons_succ, List.set_cons_zero, e8, e11] at ha
      subst ha
      clear e8 e11
      have d0 := KM0.out u hF
      refine wpOp_step rfl (fun K hK => ?_)
      go_simp
      exact hK _ _ ⟨_, rfl, (fun h => by cases h), rfl, .inl (Below.refl _ _)⟩
    · cases ho
      intro act u hF hL hdep
      have d8 := hdep { on := 8, ground := .guard } (by simp) rfl (fun p hp h => by simp at hp; try subst hp; first | rfl | exact absurd h (by decide)) _ rfl
      have d12 := hdep { on := 12, ground := .data } (by simp) rfl (fun p hp h => by simp at hp; try subst hp; first | rfl | exact absurd h (by decide)) _ rfl
      obtain ⟨ysl, ha, hy⟩ := hL.puts [19, 20, 21, 22, 23, 24, 25, 26, 27, 28, 29, 30, 31, 32, 33, 34, 35, 36, 37, 38, 39, 40, 41, 42, 43, 44, 45, 46, 2] (by kernel_rfl)
      have e8 : ysl 27 = _ := (hy 27).symm.trans d8
      have e12 : ysl 31 = _ := (hy 31).symm.trans d12
      clear hdep hL hy d8 d12
      simp only [List.foldl, List.setIfInBounds_toArray, List.set_cons_succ, List.set_cons_zero, e8, e12] at ha
      subst ha
      clear e8 e12
      have hm := HM0.out
      refine wpOp_step rfl (fun K hK => ?_)
      go_simp
      exact hK _ _ ⟨_, rfl, (fun h => by cases h), rfl, .inl (Below.refl _ _)⟩
    · cases ho
      intro act u hF hL hdep
      have d8 := hdep { on := 8, ground := .data } (by simp) rfl (fun p hp h => by simp at hp; try subst hp; first | rfl | exact absurd h (by decide)) _ rfl
      have d13 := hdep { on := 13, ground := .data } (by simp) rfl (fun p hp h => by simp at hp; try subst hp; first | rfl | exact absurd h (by decide)) _ rfl
      obtain ⟨ysl, ha, hy⟩ := hL.puts [19, 20, 21, 22, 23, 24, 25, 26, 27, 28, 29, 30, 31, 32, 33, 34, 35, 36, 37, 38, 39, 40, 41, 42, 43, 44, 45, 46, 2] (by kernel_rfl)
      have e8 : ysl 27 = _ := (hy 27).symm.trans d8
      have e13 : ysl 32 = _ := (hy 32).symm.trans d13
      clear hdep hL hy d8 d13
      simp only [List.foldl, List.setIfInBounds_toArray, List.set_cons_succ, List.set_cons_zero, e8, e13] at ha
      subst ha
      clear e8 e13
      refine wpOp_step rfl (fun K hK => ?_)
      go_simp
      exact hK _ _ ⟨_, rfl, (fun h => by cases h), rfl, .inl (Below.refl _ _)⟩
    · cases ho
      intro act u hF hL hdep
      have d14 := hdep { on := 14, ground := .data } (by simp) rfl (fun p hp h => by simp at hp; try subst hp; first | rfl | exact absurd h (by decide)) _ rfl
      obtain ⟨ysl, ha, hy⟩ := hL.puts [19, 20, 21, 22, 23, 24, 25, 26, 27, 28, 29, 30, 31, 32, 33, 34, 35, 36, 37, 38, 39, 40, 41, 42, 43, 44, 45, 46, 2] (by kernel_rfl)
      have e14 : ysl 33 = _ := (hy 33).symm.trans d14
      clear hdep hL hy d14
      simp only [List.foldl, List.setIfInBounds_toArray, List.set_cons_succ, List.set_cons_zero, e14] at ha
      subst ha
      clear e14
      refine wpOp_step rfl (fun K hK => ?_)
      go_simp
      exact hK _ _ ⟨_, rfl, (fun h => by cases h), rfl, .inl (Below.refl _ _)⟩
    · cases ho
      intro act u hF hL hdep
      have d15 := hdep { on := 15, ground := .guard } (by simp) rfl (fun p hp h => by simp at hp; try subst hp; first | rfl | exact absurd h (by decide)) _ rfl
      obtain ⟨ysl, ha, hy⟩ := hL.puts [19, 20, 21, 22, 23, 24, 25, 26, 27, 28, 29, 30, 31, 32, 33, 34, 35, 36, 37, 38, 39, 40, 41, 42, 43, 44, 45, 46, 2] (by kernel_rfl)
      have e15 : ysl 34 = _ := (hy 34).symm.trans d15
      clear hdep hL hy d15
      simp only [List.foldl, List.setIfInBounds_toArray, List.set_cons_succ, List.set_cons_zero, e15] at ha
      subst ha
      clear e15
      refine wpOp_step rfl (fun K hK => ?_)
      go_simp
      exact hK _ _ ⟨_, rfl, (fun h => by cases h), rfl, .inl (Below.refl _ _)⟩
    · cases ho
      intro act u hF hL hdep
      have d15 := hdep { on := 15, ground := .guard } (by simp) rfl (fun p hp h => by simp at hp; try subst hp; first | rfl | exact absurd h (by decide)) _ rfl
      have d16 := hdep { on := 16, ground := .data } (by simp) rfl (fun p hp h => by simp at hp; try subst hp; first | rfl | exact absurd h (by decide)) _ rfl
      obtain ⟨ysl, ha, hy⟩ := hL.puts [19, 20, 21, 22, 23, 24, 25, 26, 27, 28, 29, 30, 31, 32, 33, 34, 35, 36, 37, 38, 39, 40, 41, 42, 43, 44, 45, 46, 2] (by kernel_rfl)
      have e15 : ysl 34 = _ := (hy 34).symm.trans d15
      have e16 : ysl 35 = _ := (hy 35).symm.trans d16
      clear hdep hL hy d15 d16
      simp only [List.foldl, List.setIfInBounds_toArray, List.set_cons_succ, List.set_cons_zero, e15, e16] at ha
      subst ha
      clear e15 e16
      refine wpOp_step rfl (fun K hK => ?_)
      go_simp
      exact hK _ _ ⟨_, rfl, (fun h => by cases h), rfl, .inl (Below.refl _ _)⟩
    · cases ho
      intro act u hF hL hdep
      have d15 := hdep { on := 15, ground := .guard } (by simp) rfl (fun p hp h => by simp at hp; try subst hp; first | rfl | exact absurd h (by decide)) _ rfl
      have d17 := hdep { on := 17, ground := .data } (by simp) rfl (fun p hp h => by simp at hp; try subst hp; first | rfl | exact absurd h (by decide)) _ rfl
      obtain ⟨ysl, ha, hy⟩ := hL.puts [19, 20, 21, 22, 23, 24, 25, 26, 27, 28, 29, 30, 31, 32, 33, 34, 35, 36, 37, 38, 39, 40, 41, 42, 43, 44, 45, 46, 2] (by kernel_rfl)
      have e15 : ysl 34 = _ := (hy 34).symm.trans d15
      have e17 : ysl 36 = _ := (hy 36).symm.trans d17
      clear hdep hL hy d15 d17
      simp only [List.foldl, List.setIfInBounds_toArray, List.set_cons_succ, List.set_cons_zero, e15, e17] at ha
      subst ha
      clear e15 e17
      refine wpOp_step rfl (fun K hK => ?_)
      go_simp
      exact hK _ _ ⟨_, rfl, (fun h => by cases h), rfl, .inl (Below.refl _ _)⟩
    · cases ho
      intro act u hF hL hdep
      have d15 := hdep { on := 15, ground := .guard } (by simp) rfl (fun p hp h => by simp at hp; try subst hp; first | rfl | exact absurd h (by decide)) _ rfl
      have d18 := hdep { on := 18, ground := .data } (by simp) rfl (fun p hp h => by simp at hp; try subst hp; first | rfl | exact absurd h (by decide)) _ rfl
      obtain ⟨ysl, ha, hy⟩ := hL.puts [19, 20, 21, 22, 23, 24, 25, 26, 27, 28, 29, 30, 31, 32, 33, 34, 35, 36, 37, 38, 39, 40, 41, 42, 43, 44, 45, 46, 2] (by kernel_rfl)
      have e15 : ysl 34 = _ := (hy 34).symm.trans d15
      have e18 : ysl 37 = _ := (hy 37).symm.trans d18
      clear hdep hL hy d15 d18
      simp only [List.foldl, List.setIfInBounds_toArray, List.set_cons_succ, List.set_cons_zero, e15, e18] at ha
      subst ha
      clear e15 e18
      refine wpOp_step rfl (fun K hK => ?_)
      go_simp
      exact hK _ _ ⟨_, rfl, (fun h => by cases h), rfl, .inl (Below.refl _ _)⟩
    · cases ho
      intro act u hF hL hdep
      have d15 := hdep { on := 15, ground := .guard } (by simp) rfl (fun p hp h => by simp at hp; try subst hp; first | rfl | exact absurd h (by decide)) _ rfl
      have d19 := hdep { on := 19, ground := .data } (by simp) rfl (fun p hp h => by simp at hp; try subst hp; first | rfl | exact absurd h (by decide)) _ rfl
      obtain ⟨ysl, ha, hy⟩ := hL.puts [19, 20, 21, 22, 23, 24, 25, 26, 27, 28, 29, 30, 31, 32, 33, 34, 35, 36, 37, 38, 39, 40, 41, 42, 43, 44, 45, 46, 2] (by kernel_rfl)
      have e15 : ysl 34 = _ := (hy 34).symm.trans d15
      have e19 : ysl 38 = _ := (hy 38).symm.trans d19
      clear hdep hL hy d15 d19
      simp only [List.foldl, List.setIfInBounds_toArray, List.set_cons_succ, List.set_cons_zero, e15, e19] at ha
      subst ha
      clear e15 e19
      refine wpOp_step rfl (fun K hK => ?_)
      go_simp
      exact hK _ _ ⟨_, rfl, (fun h => by cases h), rfl, .inl (Below.refl _ _)⟩
    · cases ho
      intro act u hF hL hdep
      have d15 := hdep { on := 15, ground := .data } (by simp) rfl (fun p hp h => by simp at hp; try subst hp; first | rfl | exact absurd h (by decide)) _ rfl
      have d20 := hdep { on := 20, ground := .data } (by simp) rfl (fun p hp h => by simp at hp; try subst hp; first | rfl | exact absurd h (by decide)) _ rfl
      obtain ⟨ysl, ha, hy⟩ := hL.puts [19, 20, 21, 22, 23, 24, 25, 26, 27, 28, 29, 30, 31, 32, 33, 34, 35, 36, 37, 38, 39, 40, 41, 42, 43, 44, 45, 46, 2] (by kernel_rfl)
      have e15 : ysl 34 = _ := (hy 34).symm.trans d15
      have e20 : ysl 39 = _ := (hy 39).symm.trans d20
      clear hdep hL hy d15 d20
      simp only [List.foldl, List.setIfInBounds_toArray, List.set_cons_succ, List.set_cons_zero, e15, e20] at ha
      subst ha
      clear e15 e20
      refine wpOp_step rfl (fun K hK => ?_)
      go_simp
      exact hK _ _ ⟨_, rfl, (fun h => by cases h), rfl, .inl (Below.refl _ _)⟩
    · cases ho
      intro act u hF hL hdep
      have d21 := hdep { on := 21, ground := .data } (by simp) rfl (fun p hp h => by simp at hp; try subst hp; first | rfl | exact absurd h (by decide)) _ rfl
      obtain ⟨ysl, ha, hy⟩ := hL.puts [19, 20, 21, 22, 23, 24, 25, 26, 27, 28, 29, 30, 31, 32, 33, 34, 35, 36, 37, 38, 39, 40, 41, 42, 43, 44, 45, 46, 2] (by kernel_rfl)
      have e21 : ysl 40 = _ := (hy 40).symm.trans d21
      clear hdep hL hy d21
      simp only [List.foldl, List.setIfInBounds_toArray, List.set_cons_succ, List.set_cons_zero, e21] at ha
      subst ha
      clear e21
      refine wpOp_step rfl (fun K hK => ?_)
      go_simp
      exact hK _ _ ⟨_, rfl, (fun h => by cases h), rfl, .inl (Below.refl _ _)⟩
    · cases ho
      intro act u hF hL hdep
      have d22 := hdep { on := 22, ground := .guard } (by simp) rfl (fun p hp h => by simp at hp; try subst hp; first | rfl | exact absurd h (by decide)) _ rfl
      obtain ⟨ysl, ha, hy⟩ := hL.puts [19, 20, 21, 22, 23, 24, 25, 26, 27, 28, 29, 30, 31, 32, 33, 34, 35, 36, 37, 38, 39, 40, 41, 42, 43, 44, 45, 46, 2] (by kernel_rfl)
      have e22 : ysl 41 = _ := (hy 41).symm.trans d22
      clear hdep hL hy d22
      simp only [List.foldl, List.setIfInBounds_toArray, List.set_cons_succ, List.set_cons_zero, e22] at ha
      subst ha
      clear e22
      refine wpOp_step rfl (fun K hK => ?_)
      go_simp
      exact hK _ _ ⟨_, rfl, (fun h => by cases h), rfl, .inl (Below.refl _ _)⟩
    · cases ho
      intro act u hF hL hdep
      have d22 := hdep { on := 22, ground := .guard } (by simp) rfl (fun p hp h => by simp at hp; try subst hp; first | rfl | exact absurd h (by decide)) _ rfl
      have d23 := hdep { on := 23, ground := .data } (by simp) rfl (fun p hp h => by simp at hp; try subst hp; first | rfl | exact absurd h (by decide)) _ rfl
      obtain ⟨ysl, ha, hy⟩ := hL.puts [19, 20, 21, 22, 23, 24, 25, 26, 27, 28, 29, 30, 31, 32, 33, 34, 35, 36, 37, 38, 39, 40, 41, 42, 43, 44, 45, 46, 2] (by kernel_rfl)
      have e22 : ysl 41 = _ := (hy 41).symm.trans d22
      have e23 : ysl 42 = _ := (hy 42).symm.trans d23
      clear hdep hL hy d22 d23
      simp only [List.foldl, List.setIfInBounds_toArray, List.set_cons_succ, List.set_cons_zero, e22, e23] at ha
      subst ha
      clear e22 e23
      refine wpOp_step rfl (fun K hK => ?_)
      go_simp
      exact hK _ _ ⟨_, rfl, (fun h => by cases h), rfl, .inl (Below.refl _ _)⟩
    · cases ho
      intro act u hF hL hdep
      have d22 := hdep { on := 22, ground := .guard } (by simp) rfl (fun p hp h => by simp at hp; try subst hp; first | rfl | exact absurd h (by decide)) _ rfl
      have d24 := hdep { on := 24, ground := .data } (by simp) rfl (fun p hp h => by simp at hp; try subst hp; first | rfl | exact absurd h (by decide)) _ rfl
      obtain ⟨ysl, ha, hy⟩ := hL.puts [19, 20, 21, 22, 23, 24, 25, 26, 27, 28, 29, 30, 31, 32, 33, 34, 35, 36, 37, 38, 39, 40, 41, 42, 43, 44, 45, 46, 2] (by kernel_rfl)
      have e22 : ysl 41 = _ := (hy 41).symm.trans d22
      have e24 : ysl 43 = _ := (hy 43).symm.trans d24
      clear hdep hL hy d22 d24
      simp only [List.foldl, List.setIfInBounds_toArray, List.set_cons_succ, List.set_cons_zero, e22, e24] at ha
      subst ha
      clear e22 e24
      refine wpOp_step rfl (fun K hK => ?_)
      go_simp
      exact hK _ _ ⟨_, rfl, (fun h => by cases h), rfl, .inl (Below.refl _ _)⟩
    · cases ho
      intro act u hF hL hdep
      have d22 := hdep { on := 22, ground := .guard } (by simp) rfl (fun p hp h => by simp at hp; try subst hp; first | rfl | exact absurd h (by decide)) _ rfl
      have d25 := hdep { on := 25, ground := .data } (by simp) rfl (fun p hp h => by simp at hp; try subst hp; first | rfl | exact absurd h (by decide)) _ rfl
      obtain ⟨ysl, ha, hy⟩ := hL.puts [19, 20, 21, 22, 23, 24, 25, 26, 27, 28, 29, 30, 31, 32, 33, 34, 35, 36, 37, 38, 39, 40, 41, 42, 43, 44, 45, 46, 2] (by kernel_rfl)
      have e22 : ysl 41 = _ := (hy 41).symm.trans d22
      have e25 : ysl 44 = _ := (hy 44).symm.trans d25
      clear hdep hL hy d22 d25
      simp only [List.foldl, List.setIfInBounds_toArray, List.set_cons_succ, List.set_cons_zero, e22, e25] at ha
      subst ha
      clear e22 e25
      refine wpOp_step rfl (fun K hK => ?_)
      go_simp
      exact hK _ _ ⟨_, rfl, (fun h => by cases h), rfl, .inl (Below.refl _ _)⟩
    · cases ho
      intro act u hF hL hdep
      have d22 := hdep { on := 22, ground := .data } (by simp) rfl (fun p hp h => by simp at hp; try subst hp; first | rfl | exact absurd h (by decide)) _ rfl
      have d26 := hdep { on := 26, ground := .data } (by simp) rfl (fun p hp h => by simp at hp; try subst hp; first | rfl | exact absurd h (by decide)) _ rfl
      obtain ⟨ysl, ha, hy⟩ := hL.puts [19, 20, 21, 22, 23, 24, 25, 26, 27, 28, 29, 30, 31, 32, 33, 34, 35, 36, 37, 38, 39, 40, 41, 42, 43, 44, 45, 46, 2] (by kernel_rfl)
      have e22 : ysl 41 = _ := (hy 41).symm.trans d22
      have e26 : ysl 45 = _ := (hy 45).symm.trans d26
      clear hdep hL hy d22 d26
      simp only [List.foldl, List.setIfInBounds_toArray, List.set_cons_succ, List.set_cons_zero, e22, e26] at ha
      subst ha
      clear e22 e26
      refine wpOp_step rfl (fun K hK => ?_)
      go_simp
      exact hK _ _ ⟨_, rfl, (fun h => by cases h), rfl, .inl (Below.refl _ _)⟩
    · cases ho
      intro act u hF hL hdep
      have d27 := hdep { on := 27, ground := .data } (by simp) rfl (fun p hp h => by simp at hp; try subst hp; first | rfl | exact absurd h (by decide)) _ rfl
      obtain ⟨ysl, ha, hy⟩ := hL.puts [19, 20, 21, 22, 23, 24, 25, 26, 27, 28, 29, 30, 31, 32, 33, 34, 35, 36, 37, 38, 39, 40, 41, 42, 43, 44, 45, 46, 2] (by kernel_rfl)
      have e27 : ysl 46 = _ := (hy 46).symm.trans d27
      clear hdep hL hy d27
      simp only [List.foldl, List.setIfInBounds_toArray, List.set_cons_succ, List.set_cons_zero, e27] at ha
      subst ha
      clear e27
      refine wpOp_step rfl (fun K hK => ?_)
      go_simp
      exact hK _ _ ⟨_, rfl, (fun h => by cases h), rfl, .inl (Below.refl _ _)⟩
    · exact absurd ho (by simp)
  case fin =>
    intro act u hF hL hsf
    have d28 := hsf 28 _ rfl (fun p hp => by simp at hp; try subst hp; decide)
    obtain ⟨ysl, ha, hy⟩ := hL.puts [19, 20, 21, 22, 23, 24, 25, 26, 27, 28, 29, 30, 31, 32, 33, 34, 35, 36, 37, 38, 39, 40, 41, 42, 43, 44, 45, 46, 2] (by kernel_rfl)
    have e28 : ysl 2 = _ := (hy 2).symm.trans d28
    clear hL hsf hy d28
    simp only [List.foldl, List.setIfInBounds_toArray, List.set_cons_succ, List.set_cons_zero, e28] at ha
    subst ha
    clear e28
    have HFu := Lib.hid (Fr.trans HF1.out hF)
    clear hF
    go_wp2_with fail
    go_ret
    exact ⟨rfl, HFu.out⟩
set_option maxRecDepth 8000 in
set_option maxHeartbeats 4000000 in
theorem spec_NamOk_v (M F V : List Int) (H : List Bool) (aM aF aV aH : Option Addr) (cM cF cV cH : Nat) (w : World) (h : SrcN w ⟨M, F, V, H⟩ aM aF aV aH) (hf : Few6 ⟨M, F, V, H⟩) (h1 : M.length = 8) (h2 : H.length = 20) (h3 : wordsB V 20 = true) (h4 : apB (M ++ F) = true) (h5 : M.getD 0 0 = 0) (h6 : (V.getD 0 0 == 0) = false) :
    Calls Try.prog 24 #[.agg #[.slice aM M.length cM, .slice aF F.length cF, .slice aV V.length cV, .slice aH H.length cH]] w fun e w' => e = .returned (.bool false) ∧ Fr w w' := by
  obtain ⟨hM, hF, hV, hH⟩ := h
  obtain ⟨fM, fF, fV, fH⟩ := hf
  simp only at hM hF hV hH fM fF fV fH
  have F1 := Fr.alloc w (.cells #[.slice aM M.length cM, .slice aF F.length cF, .slice aV V.length cV, .slice aH H.length cH] 25)
  have HB := Lib.hid (Box4.new w (.slice aM M.length cM) (.slice aF F.length cF) (.slice aV V.length cV) (.slice aH H.length cH) 25 _ rfl)
  have E3 := spec_l4Words V aV cV 20 _ (hV.fr F1) (by omega)
  rw [show (20 : Int) = ((20 : Nat) : Int) from rfl, words_eq, h3] at E3
  have X3 := Lib.hid E3
  obtain ⟨hVk, hVl⟩ := wordsB_true h3
  obtain ⟨i0, hi, hz0, hz1, hz2⟩ := info_parts info_intV
  have hne1 : ((M.length : Int) != 8) = false := by simp; omega
  have hne2 : ((H.length : Int) != 20) = false := by simp; omega
  obtain ⟨gM, oM, rfl, lM, kM⟩ := hM (by omega)
  obtain ⟨gV, oV, rfl, lV, kV⟩ := hV (by omega)
  obtain ⟨gH, oH, rfl, lH, kH⟩ := hH (by omega)
  have HLM := Lib.hid h1
  have HLV := Lib.hid hVl
  have HLH := Lib.hid h2
  obtain ⟨MF, hMF⟩ : ∃ MF, M ++ F = MF := ⟨_, rfl⟩
  rw [hMF] at h4
  have HMF := Lib.hid hMF
  have HAP := Lib.hid h4
  have HF1 := Lib.hid F1
  have KM := Lib.hid (fun (u : World) (f : Fr (w.alloc (.cells #[.slice (some ⟨gM, oM, none⟩) M.length cM, .slice aF F.length cF, .slice (some ⟨gV, oV, none⟩) V.length cV, .slice (some ⟨gH, oH, none⟩) H.length cH] 25)) u) => show ∀ i, i < M.length → u.cell? ⟨gM, oM + i, none⟩ = some (ivl M i) from fun i hi => by rw [(Fr.trans HF1.out f).cell lM]; exact kM i hi)
  have KM0 := Lib.hid (fun (u : World) (f : Fr (w.alloc (.cells #[.slice (some ⟨gM, oM, none⟩) M.length cM, .slice aF F.length cF, .slice (some ⟨gV, oV, none⟩) V.length cV, .slice (some ⟨gH, oH, none⟩) H.length cH] 25)) u) => show u.cell? ⟨gM, oM, none⟩ = some (.int .i64 (M.getD 0 0)) from KM.out u f 0 (by omega))
  have KV0 := Lib.hid (fun (u : World) (f : Fr (w.alloc (.cells #[.slice (some ⟨gM, oM, none⟩) M.length cM, .slice aF F.length cF, .slice (some ⟨gV, oV, none⟩) V.length cV, .slice (some ⟨gH, oH, none⟩) H.length cH] 25)) u) => show u.cell? ⟨gV, oV, none⟩ = some (.int .i64 (V.getD 0 0)) from by rw [(Fr.trans HF1.out f).cell lV]; exact kV 0 (by omega))
  have KH0 := Lib.hid (fun (u : World) (f : Fr (w.alloc (.cells #[.slice (some ⟨gM, oM, none⟩) M.length cM, .slice aF F.length cF, .slice (some ⟨gV, oV, none⟩) V.length cV, .slice (some ⟨gH, oH, none⟩) H.length cH] 25)) u) => show u.cell? ⟨gH, oH, none⟩ = some (.bool (H.getD 0 false)) from by rw [(Fr.trans HF1.out f).cell lH]; exact kH 0 (by omega))
  have HSF := Lib.hid (fun (u : World) (f : Fr (w.alloc (.cells #[.slice (some ⟨gM, oM, none⟩) M.length cM, .slice aF F.length cF, .slice (some ⟨gV, oV, none⟩) V.length cV, .slice (some ⟨gH, oH, none⟩) H.length cH] 25)) u) => show 0 < F.length → ∃ g o, aF = some ⟨g, o, none⟩ ∧ ∀ i, i < F.length → u.cell? ⟨g, o + i, none⟩ = some (ivl F i) from fun h0 => by
    obtain ⟨g, o, e, l, k⟩ := hF h0
    exact ⟨g, o, e, fun i hi => by rw [(Fr.trans HF1.out f).cell l]; exact k i hi⟩)
  generalize M.getD 0 0 = m0 at *
  generalize V.getD 0 0 = v0 at *
  generalize H.getD 0 false = b0 at *
  have HM0 := Lib.hid h5
  clear h5
  have HV0 := Lib.hid h6
  clear h6
  clear hMF h1 h2 h3 h4 hVk hVl kM kV kH hF hH E3 lM lV lH F1
  go_enter Try.func24, Try.ntmps24
  go_wp2_with fail
  refine X3.out.mono ?_
  rintro e w' ⟨rfl, rfl⟩
  go_wp2_with fail
  generalize (w.alloc (.cells #[.slice (some ⟨gM, oM, none⟩) M.length cM, .slice aF F.length cF, .slice (some ⟨gV, oV, none⟩) V.length cV, .slice (some ⟨gH, oH, none⟩) H.length cH] 25)) = u0 at *
  refine wp_region_spend 47 [(6, 3)] (fun i v u => match i with | 0 => ∃ g, v = .slice (some ⟨g, 0, none⟩) 0 0 | 1 => v = .pointer (some ⟨w.heap.size, 0, none⟩) | 2 => v = .slice (some ⟨gM, oM, none⟩) M.length cM | 3 => ∃ g c, v = .slice (some ⟨g, 0, none⟩) M.length c ∧ u0.heap.size ≤ g ∧ Ro u g M ∧ Ca u g M.length c | 4 => v = .pointer (some ⟨w.heap.size, 1, none⟩) | 5 => v = .slice aF F.length cF | 6 => ∃ ao c, v = .slice ao MF.length c ∧ Src u MF.length (ivl MF) ao ∧ MF.length ≤ c | 7 => v = .bool true | 8 => v = .bool true | 9 => v = .pointer (some ⟨w.heap.size, 0, none⟩) | 10 => v = .slice (some ⟨gM, oM, none⟩) M.length cM | 11 => v = .pointer (some ⟨gM, oM, none⟩) | 12 => v = .int .i64 m0 | 13 => v = .bool true | 14 => v = .bool true | 15 => v = .bool true | 16 => v = .pointer (some ⟨w.heap.size, 2, none⟩) | 17 => v = .slice (some ⟨gV, oV, none⟩) V.length cV | 18 => v = .pointer (some ⟨gV, oV, none⟩) | 19 => v = .int .i64 v0 | 20 => v = .bool false | 21 => v = .bool false | 22 => v = .bool false | 23 => v = undef | 24 => v = undef | 25 => v = undef | 26 => v = undef | 27 => v = .bool false | 28 => v = .bool false | _ => True) ?mono ?mono2 (by kernel_rfl) (by kernel_rfl) rfl (by kernel_rfl) ?step ?fin
  case mono =>
    intro j v u u' hsz h f
    rcases j with _ | _ | _ | _ | _ | _ | _ | _ | _ | _ | _ | _ | _ | _ | _ | _ | _ | _ | _ | _ | _ | _ | _ | _ | _ | _ | _ | _ | _ | j
    · exact h
    · exact h
    · exact h
    · obtain ⟨g, c, e, hb, r, k⟩ := h
      exact ⟨g, c, e, hb, r.fr f, k.but (L := []) (But.of f) (by simp)⟩
    · exact h
    · exact h
    · obtain ⟨ao, c, e, s, k⟩ := h
      exact ⟨ao, c, e, s.fr f, k⟩
    · exact h
    · exact h
    · exact h
    · exact h
    · exact h
    · exact h
    · exact h
    · exact h
    · exact h
    · exact h
    · exact h
    · exact h
    · exact h
    · exact h
    · exact h
    · exact h
    · exact h
    · exact h
    · exact h
    · exact h
    · exact h
    · exact h
    · trivial
  case mono2 =>
    intro j v u u' g hsz hne h hg f
    rcases j with _ | _ | _ | _ | _ | _ | _ | _ | _ | _ | _ | _ | _ | _ | _ | _ | _ | _ | _ | _ | _ | _ | _ | _ | _ | _ | _ | _ | _ | j
    · exact h
    · exact h
    · exact h
    · exact absurd rfl (hne (6, 3) (by simp)).1
    · exact h
    · exact h
    · exact absurd rfl (hne (6, 3) (by simp)).2
    · exact h
    · exact h
    · exact h
    · exact h
    · exact h
    · exact h
    · exact h
    · exact h
    · exact h
    · exact h
    · exact h
    · exact h
    · exact h
    · exact h
    · exact h
    · exact h
    · exact h
    · exact h
    · exact h
    · exact h
    · exact h
    · exact h
    · trivial
  case step =>
    intro i o ho
    rcases i with _ | _ | _ | _ | _ | _ | _ | _ | _ | _ | _ | _ | _ | _ | _ | _ | _ | _ | _ | _ | _ | _ | _ | _ | _ | _ | _ | _ | _ | i
    · cases ho
      intro act u hF hL hdep
      obtain ⟨ysl, ha, hy⟩ := hL.puts [19, 20, 21, 22, 23, 24, 25, 26, 27, 28, 29, 30, 31, 32, 33, 34, 35, 36, 37, 38, 39, 40, 41, 42, 43, 44, 45, 46, 2] (by kernel_rfl)
      clear hdep hL hy
      simp only [List.foldl, List.setIfInBounds_toArray, List.set_cons_succ, List.set_cons_zero] at ha
      subst ha
      refine wpOp_step rfl (fun K hK => ?_)
      go_simp
      exact hK _ _ ⟨_, rfl, (fun h => by cases h), ⟨_, rfl⟩, .inl (Fr.alloc _ _)⟩
    · cases ho
      intro act u hF hL hdep
      obtain ⟨ysl, ha, hy⟩ := hL.puts [19, 20, 21, 22, 23, 24, 25, 26, 27, 28, 29, 30, 31, 32, 33, 34, 35, 36, 37, 38, 39, 40, 41, 42, 43, 44, 45, 46, 2] (by kernel_rfl)
      clear hdep hL hy
      simp only [List.foldl, List.setIfInBounds_toArray, List.set_cons_succ, List.set_cons_zero] at ha
      subst ha
      refine wpOp_step rfl (fun K hK => ?_)
      go_simp
      exact hK _ _ ⟨_, rfl, (fun h => by cases h), rfl, .inl (Below.refl _ _)⟩
    · cases ho
      intro act u hF hL hdep
      have d1 := hdep { on := 1, ground := .data } (by simp) rfl (fun p hp h => by simp at hp; try subst hp; first | rfl | exact absurd h (by decide)) _ rfl
      obtain ⟨ysl, ha, hy⟩ := hL.puts [19, 20, 21, 22, 23, 24, 25, 26, 27, 28, 29, 30, 31, 32, 33, 34, 35, 36, 37, 38, 39, 40, 41, 42, 43, 44, 45, 46, 2] (by kernel_rfl)
      have e1 : ysl 20 = _ := (hy 20).symm.trans d1
      clear hdep hL hy d1
      simp only [List.foldl, List.setIfInBounds_toArray, List.set_cons_succ, List.set_cons_zero, e1] at ha
      subst ha
      clear e1
      obtain ⟨_, c0, c1, c2, c3, _, _, _, _⟩ := HB.out.fr hF
      refine wpOp_step rfl (fun K hK => ?_)
      go_simp
      exact hK _ _ ⟨_, rfl, (fun h => by cases h), rfl, .inl (Below.refl _ _)⟩
    · cases ho
      intro act u hF hL hdep
      have d0 := hdep { on := 0, ground := .data } (by simp) rfl (fun p hp h => by simp at hp; try subst hp; first | rfl | exact absurd h (by decide)) _ rfl
      have d2 := hdep { on := 2, ground := .data } (by simp) rfl (fun p hp h => by simp at hp; try subst hp; first | rfl | exact absurd h (by decide)) _ rfl
      obtain ⟨ysl, ha, hy⟩ := hL.puts [19, 20, 21, 22, 23, 24, 25, 26, 27, 28, 29, 30, 31, 32, 33, 34, 35, 36, 37, 38, 39, 40, 41, 42, 43, 44, 45, 46, 2] (by kernel_rfl)
      obtain ⟨g0, h0⟩ := d0
      have e0 : ysl 19 = .slice (some ⟨g0, 0, none⟩) 0 0 := (hy 19).symm.trans h0
      have e2 : ysl 21 = _ := (hy 21).symm.trans d2
      clear hdep hL hy d2 h0
      simp only [List.foldl, List.setIfInBounds_toArray, List.set_cons_succ, List.set_cons_zero, e0, e2] at ha
      subst ha
      clear e0 e2
      refine wpOp_step rfl (fun K hK => ?_)
      rw [if_pos (by simp [Region.wanted])]
      refine wp_append_new _ _ 22 rfl 3 i0 (.int .i64 0) Try.underlying22 hi hz0 hz1 hz2 _ rfl ⟨gM, oM, none⟩ _ _ (M.map (Value.int .i64)) rfl (by simp) (cells_of M (KM.out u hF)) (ints_one _) (by have := HLM.out; omega) (by have := HLM.out; omega) ?_
      intro cp zs hzs
      refine hK _ _ ⟨_, rfl, (fun h => by cases h), ⟨_, cp, rfl, hF.size, ro_new u.drew M zs _, ca_new u.drew M zs cp (hzs rfl)⟩, .inl ((Below.drew (Below.refl _ _)).alloc (Nat.le_refl _) _)⟩
    · cases ho
      intro act u hF hL hdep
      obtain ⟨ysl, ha, hy⟩ := hL.puts [19, 20, 21, 22, 23, 24, 25, 26, 27, 28, 29, 30, 31, 32, 33, 34, 35, 36, 37, 38, 39, 40, 41, 42, 43, 44, 45, 46, 2] (by kernel_rfl)
      clear hdep hL hy
      simp only [List.foldl, List.setIfInBounds_toArray, List.set_cons_succ, List.set_cons_zero] at ha
      subst ha
      refine wpOp_step rfl (fun K hK => ?_)
      go_simp
      exact hK _ _ ⟨_, rfl, (fun h => by cases h), rfl, .inl (Below.refl _ _)⟩
    · cases ho
      intro act u hF hL hdep
      have d4 := hdep { on := 4, ground := .data } (by simp) rfl (fun p hp h => by simp at hp; try subst hp; first | rfl | exact absurd h (by decide)) _ rfl
      obtain ⟨ysl, ha, hy⟩ := hL.puts [19, 20, 21, 22, 23, 24, 25, 26, 27, 28, 29, 30, 31, 32, 33, 34, 35, 36, 37, 38, 39, 40, 41, 42, 43, 44, 45, 46, 2] (by kernel_rfl)
      have e4 : ysl 23 = _ := (hy 23).symm.trans d4
      clear hdep hL hy d4
      simp only [List.foldl, List.setIfInBounds_toArray, List.set_cons_succ, List.set_cons_zero, e4] at ha
      subst ha
      clear e4
      obtain ⟨_, c0, c1, c2, c3, _, _, _, _⟩ := HB.out.fr hF
      refine wpOp_step rfl (fun K hK => ?_)
      go_simp
      exact hK _ _ ⟨_, rfl, (fun h => by cases h), rfl, .inl (Below.refl _ _)⟩
    · cases ho
      intro act u hF hL hdep
      have d3 := hdep { on := 3, ground := .data } (by simp) rfl (fun p hp h => by simp at hp; try subst hp; first | rfl | exact absurd h (by decide)) _ rfl
      have d5 := hdep { on := 5, ground := .data } (by simp) rfl (fun p hp h => by simp at hp; try subst hp; first | rfl | exact absurd h (by decide)) _ rfl
      obtain ⟨ysl, ha, hy⟩ := hL.puts [19, 20, 21, 22, 23, 24, 25, 26, 27, 28, 29, 30, 31, 32, 33, 34, 35, 36, 37, 38, 39, 40, 41, 42, 43, 44, 45, 46, 2] (by kernel_rfl)
      obtain ⟨g3, c3, h3, b3, r3, k3⟩ := d3
      have e3 : ysl 22 = .slice (some ⟨g3, 0, none⟩) M.length c3 := (hy 22).symm.trans h3
      have e5 : ysl 24 = _ := (hy 24).symm.trans d5
      clear hdep hL hy d5 h3
      simp only [List.foldl, List.setIfInBounds_toArray, List.set_cons_succ, List.set_cons_zero, e3, e5] at ha
      subst ha
      clear e3 e5
      by_cases hz : F.length = 0
      · have hn : M = MF := by rw [← HMF.out, List.length_eq_zero_iff.1 hz, List.append_nil]
        rw [hz]
        refine wpOp_step rfl (fun K hK => ?_)
        rw [if_pos (by simp [Region.wanted])]
        refine wp_append_zero _ _ 22 rfl 3 i0 Try.underlying22 hi _ M.length c3 (by obtain ⟨_, _, _, hq, _⟩ := k3; exact hq) rfl _ _ rfl ?_
        refine hK _ _ ⟨_, rfl, (fun h => by cases h), ⟨_, c3, by rw [hn], by rw [← hn]; exact r3.src, by obtain ⟨_, _, _, hq, _⟩ := k3; rw [← hn]; exact hq⟩, .inl (Below.refl _ _)⟩
      · obtain ⟨gF, oF, rfl, kF⟩ := HSF.out u hF (by omega)
        refine wpOp_append_own_at rfl rfl _ _ 22 rfl u0.heap.size 3 i0 (.int .i64 0) 1 8 Try.underlying22 hi hz0 hz1 hz2 rfl (by decide) _ M.length (M.map (Value.int .i64)) rfl (ca_own k3 r3 b3) ⟨gF, oF, none⟩ F.length cF (F.map (Value.int .i64)) rfl (by simp) (cells_of F kF) (ints_one _) (by have := HLM.out; have : maxLen = 9223372036854775807 := rfl; omega) (by have := HLM.out; omega) hF.size ?_
        intro v' w' ho hg _
        rw [← List.map_append, HMF.out] at ho
        obtain ⟨ao, cp, rfl, hs, hc⟩ := own_row ho
        exact ⟨_, rfl, (fun h => by cases h), ⟨ao, cp, rfl, hs, hc⟩, .inr ⟨⟨3, by simp, fun p hp => by simpa using hp⟩, g3, b3, but_grown hg⟩⟩
    · cases ho
      intro act u hF hL hdep
      have d6 := hdep { on := 6, ground := .data } (by simp) rfl (fun p hp h => by simp at hp; try subst hp; first | rfl | exact absurd h (by decide)) _ rfl
      obtain ⟨ysl, ha, hy⟩ := hL.puts [19, 20, 21, 22, 23, 24, 25, 26, 27, 28, 29, 30, 31, 32, 33, 34, 35, 36, 37, 38, 39, 40, 41, 42, 43, 44, 45, 46, 2] (by kernel_rfl)
      obtain ⟨ao6, c6, h6, s6, k6⟩ := d6
      have e6 : ysl 25 = .slice ao6 MF.length c6 := (hy 25).symm.trans h6
      clear hdep hL hy h6
      simp only [List.foldl, List.setIfInBounds_toArray, List.set_cons_succ, List.set_cons_zero, e6] at ha
      subst ha
      clear e6
      refine wpOp_step rfl (fun K hK => ?_)
      go_simp
      refine (spec_l6Apart MF _ _ u s6 (by have := HLM.out; rw [← HMF.out]; simp; omega) k6).mono ?_
      rintro e u' ⟨rfl, m7, hm7⟩
      rw [HAP.out]
      go_simp
      exact hK _ _ ⟨_, rfl, (fun h => by cases h), rfl, .inl (by rw [← hm7]; exact Below.drewN (Below.refl _ _) _)⟩
    · cases ho
      intro act u hF hL hdep
      have d7 := hdep { on := 7, ground := .data } (by simp) rfl (fun p hp h => by simp at hp; try subst hp; first | rfl | exact absurd h (by decide)) _ rfl
      obtain ⟨ysl, ha, hy⟩ := hL.puts [19, 20, 21, 22, 23, 24, 25, 26, 27, 28, 29, 30, 31, 32, 33, 34, 35, 36, 37, 38, 39, 40, 41, 42, 43, 44, 45, 46, 2] (by kernel_rfl)
      have e7 : ysl 26 = _ := (hy 26).symm.trans d7
      clear hdep hL hy d7
      simp only [List.foldl, List.setIfInBounds_toArray, List.set_cons_succ, List.set_cons_zero, e7] at ha
      subst ha
      clear e7
      refine wpOp_step rfl (fun K hK => ?_)
      go_simp
      exact hK _ _ ⟨_, rfl, (fun h => by cases h), rfl, .inl (Below.refl _ _)⟩
    · cases ho
      intro act u hF hL hdep
      have d8 := hdep { on := 8, ground := .guard } (by simp) rfl (fun p hp h => by simp at hp; try subst hp; first | rfl | exact absurd h (by decide)) _ rfl
      obtain ⟨ysl, ha, hy⟩ := hL.puts [19, 20, 21, 22, 23, 24, 25, 26, 27, 28, 29, 30, 31, 32, 33, 34, 35, 36, 37, 38, 39, 40, 41, 42, 43, 44, 45, 46, 2] (by kernel_rfl)
      have e8 : ysl 27 = _ := (hy 27).symm.trans d8
      clear hdep hL hy d8
      simp only [List.foldl, List.setIfInBounds_toArray, List.set_cons_succ, List.set_cons_zero, e8] at ha
      subst ha
      clear e8
      refine wpOp_step rfl (fun K hK => ?_)
      go_simp
      exact hK _ _ ⟨_, rfl, (fun h => by cases h), rfl, .inl (Below.refl _ _)⟩
    · cases ho
      intro act u hF hL hdep
      have d8 := hdep { on := 8, ground := .guard } (by simp) rfl (fun p hp h => by simp at hp; try subst hp; first | rfl | exact absurd h (by decide)) _ rfl
      have d9 := hdep { on := 9, ground := .data } (by simp) rfl (fun p hp h => by simp at hp; try subst hp; first | rfl | exact absurd h (by decide)) _ rfl
      obtain ⟨ysl, ha, hy⟩ := hL.puts [19, 20, 21, 22, 23, 24, 25, 26, 27, 28, 29, 30, 31, 32, 33, 34, 35, 36, 37, 38, 39, 40, 41, 42, 43, 44, 45, 46, 2] (by kernel_rfl)
      have e8 : ysl 27 = _ := (hy 27).symm.trans d8
      have e9 : ysl 28 = _ := (hy 28).symm.trans d9
      clear hdep hL hy d8 d9
      simp only [List.foldl, List.setIfInBounds_toArray, List.set_cons_succ, List.set_cons_zero, e8, e9] at ha
      subst ha
      clear e8 e9
      obtain ⟨_, c0, c1, c2, c3, _, _, _, _⟩ := HB.out.fr hF
      refine wpOp_step rfl (fun K hK => ?_)
      go_simp
      exact hK _ _ ⟨_, rfl, (fun h => by cases h), rfl, .inl (Below.refl _ _)⟩
    · cases ho
      intro act u hF hL hdep
      have d8 := hdep { on := 8, ground := .guard } (by simp) rfl (fun p hp h => by simp at hp; try subst hp; first | rfl | exact absurd h (by decide)) _ rfl
      have d10 := hdep { on := 10, ground := .data } (by simp) rfl (fun p hp h => by simp at hp; try subst hp; first | rfl | exact absurd h (by decide)) _ rfl
      obtain ⟨ysl, ha, hy⟩ := hL.puts [19, 20, 21, 22, 23, 24, 25, 26, 27, 28, 29, 30, 31, 32, 33, 34, 35, 36, 37, 38, 39, 40, 41, 42, 43, 44, 45, 46, 2] (by kernel_rfl)
      have e8 : ysl 27 = _ := (hy 27).symm.trans d8
      have e10 : ysl 29 = _ := (hy 29).symm.trans d10
      clear hdep hL hy d8 d10
      simp only [List.foldl, List.setIfInBounds_toArray, List.set_cons_succ, List.set_cons_zero, e8, e10] at ha
      subst ha
      clear e8 e10
      have hl0 : 0 < M.length := by have := HLM.out; omega
      refine wpOp_step rfl (fun K hK => ?_)
      go_simp
      exact hK _ _ ⟨_, rfl, (fun h => by cases h), rfl, .inl (Below.refl _ _)⟩
    · cases ho
      intro act u hF hL hdep
      have d8 := hdep { on := 8, ground := .guard } (by simp) rfl (fun p hp h => by simp at hp; try subst hp; first | rfl | exact absurd h (by decide)) _ rfl
      have d11 := hdep { on := 11, ground := .data } (by simp) rfl (fun p hp h => by simp at hp; try subst hp; first | rfl | exact absurd h (by decide)) _ rfl
      obtain ⟨ysl, ha, hy⟩ := hL.puts [19, 20, 21, 22, 23, 24, 25, 26, 27, 28, 29, 30, 31, 32, 33, 34, 35, 36, 37, 38, 39, 40, 41, 42, 43, 44, 45, 46, 2] (by kernel_rfl)
      have e8 : ysl 27 = _ := (hy 27).symm.trans d8
      have e11 : ysl 30 = _ := (hy 30).symm.trans d11
      clear hdep hL hy d8 d11
      simp only [List.foldl, List.setIfInBounds_toArray, List.set_cons_succ, List.set_cons_zero, e8, e11] at ha
      subst ha
      clear e8 e11
      have d0 := KM0.out u hF
      refine wpOp_step rfl (fun K hK => ?_)
      go_simp
      exact hK _ _ ⟨_, rfl, (fun h => by cases h), rfl, .inl (Below.refl _ _)⟩
    · cases ho
      intro act u hF hL hdep
      have d8 := hdep { on := 8, ground := .guard } (by simp) rfl (fun p hp h => by simp at hp; try subst hp; first | rfl | exact absurd h (by decide)) _ rfl
      have d12 := hdep { on := 12, ground := .data } (by simp) rfl (fun p hp h => by simp at hp; try subst hp; first | rfl | exact absurd h (by decide)) _ rfl
      obtain ⟨ysl, ha, hy⟩ := hL.puts [19, 20, 21, 22, 23, 24, 25, 26, 27, 28, 29, 30, 31, 32, 33, 34, 35, 36, 37, 38, 39, 40, 41, 42, 43, 44, 45, 46, 2] (by kernel_rfl)
      have e8 : ysl 27 = _ := (hy 27).symm.trans d8
      have e12 : ysl 31 = _ := (hy 31).symm.trans d12
      clear hdep hL hy d8 d12
      simp only [List.foldl, List.setIfInBounds_toArray, List.set_cons_succ, List.set_cons_zero, e8, e12] at ha
      subst ha
      clear e8 e12
      have hm : (m0 == 0) = true := by rw [show m0 = 0 from HM0.out]; rfl
      refine wpOp_step rfl (fun K hK => ?_)
      go_simp
      exact hK _ _ ⟨_, rfl, (fun h => by cases h), rfl, .inl (Below.refl _ _)⟩
    · cases ho
      intro act u hF hL hdep
      have d8 := hdep { on := 8, ground := .data } (by simp) rfl (fun p hp h => by simp at hp; try subst hp; first | rfl | exact absurd h (by decide)) _ rfl
      have d13 := hdep { on := 13, ground := .data } (by simp) rfl (fun p hp h => by simp at hp; try subst hp; first | rfl | exact absurd h (by decide)) _ rfl
      obtain ⟨ysl, ha, hy⟩ := hL.puts [19, 20, 21, 22, 23, 24, 25, 26, 27, 28, 29, 30, 31, 32, 33, 34, 35, 36, 37, 38, 39, 40, 41, 42, 43, 44, 45, 46, 2] (by kernel_rfl)
      have e8 : ysl 27 = _ := (hy 27).symm.trans d8
      have e13 : ysl 32 = _ := (hy 32).symm.trans d13
      clear hdep hL hy d8 d13
      simp only [List.foldl, List.setIfInBounds_toArray, List.set_cons_succ, List.set_cons_zero, e8, e13] at ha
      subst ha
      clear e8 e13
      refine wpOp_step rfl (fun K hK => ?_)
      go_simp
      exact hK _ _ ⟨_, rfl, (fun h => by cases h), rfl, .inl (Below.refl _ _)⟩
    · cases ho
      intro act u hF hL hdep
      have d14 := hdep { on := 14, ground := .data } (by simp) rfl (fun p hp h => by simp at hp; try subst hp; first | rfl | exact absurd h (by decide)) _ rfl
      obtain ⟨ysl, ha, hy⟩ := hL.puts [19, 20, 21, 22, 23, 24, 25, 26, 27, 28, 29, 30, 31, 32, 33, 34, 35, 36, 37, 38, 39, 40, 41, 42, 43, 44, 45, 46, 2] (by kernel_rfl)
      have e14 : ysl 33 = _ := (hy 33).symm.trans d14
      clear hdep hL hy d14
      simp only [List.foldl, List.setIfInBounds_toArray, List.set_cons_succ, List.set_cons_zero, e14] at ha
      subst ha
      clear e14
      refine wpOp_step rfl (fun K hK => ?_)
      go_simp
      exact hK _ _ ⟨_, rfl, (fun h => by cases h), rfl, .inl (Below.refl _ _)⟩
    · cases ho
      intro act u hF hL hdep
      have d15 := hdep { on := 15, ground := .guard } (by simp) rfl (fun p hp h => by simp at hp; try subst hp; first | rfl | exact absurd h (by decide)) _ rfl
      obtain ⟨ysl, ha, hy⟩ := hL.puts [19, 20, 21, 22, 23, 24, 25, 26, 27, 28, 29, 30, 31, 32, 33, 34, 35, 36, 37, 38, 39, 40, 41, 42, 43, 44, 45, 46, 2] (by kernel_rfl)
      have e15 : ysl 34 = _ := (hy 34).symm.trans d15
      clear hdep hL hy d15
      simp only [List.foldl, List.setIfInBounds_toArray, List.set_cons_succ, List.set_cons_zero, e15] at ha
      subst ha
      clear e15
      refine wpOp_step rfl (fun K hK => ?_)
      go_simp
      exact hK _ _ ⟨_, rfl, (fun h => by cases h), rfl, .inl (Below.refl _ _)⟩
    · cases ho
      intro act u hF hL hdep
      have d15 := hdep { on := 15, ground := .guard } (by simp) rfl (fun p hp h => by simp at hp; try subst hp; first | rfl | exact absurd h (by decide)) _ rfl
      have d16 := hdep { on := 16, ground := .data } (by simp) rfl (fun p hp h => by simp at hp; try subst hp; first | rfl | exact absurd h (by decide)) _ rfl
      obtain ⟨ysl, ha, hy⟩ := hL.puts [19, 20, 21, 22, 23, 24, 25, 26, 27, 28, 29, 30, 31, 32, 33, 34, 35, 36, 37, 38, 39, 40, 41, 42, 43, 44, 45, 46, 2] (by kernel_rfl)
      have e15 : ysl 34 = _ := (hy 34).symm.trans d15
      have e16 : ysl 35 = _ := (hy 35).symm.trans d16
      clear hdep hL hy d15 d16
      simp only [List.foldl, List.setIfInBounds_toArray, List.set_cons_succ, List.set_cons_zero, e15, e16] at ha
      subst ha
      clear e15 e16
      obtain ⟨_, c0, c1, c2, c3, _, _, _, _⟩ := HB.out.fr hF
      refine wpOp_step rfl (fun K hK => ?_)
      go_simp
      exact hK _ _ ⟨_, rfl, (fun h => by cases h), rfl, .inl (Below.refl _ _)⟩
    · cases ho
      intro act u hF hL hdep
      have d15 := hdep { on := 15, ground := .guard } (by simp) rfl (fun p hp h => by simp at hp; try subst hp; first | rfl | exact absurd h (by decide)) _ rfl
      have d17 := hdep { on := 17, ground := .data } (by simp) rfl (fun p hp h => by simp at hp; try subst hp; first | rfl | exact absurd h (by decide)) _ rfl
      obtain ⟨ysl, ha, hy⟩ := hL.puts [19, 20, 21, 22, 23, 24, 25, 26, 27, 28, 29, 30, 31, 32, 33, 34, 35, 36, 37, 38, 39, 40, 41, 42, 43, 44, 45, 46, 2] (by kernel_rfl)
      have e15 : ysl 34 = _ := (hy 34).symm.trans d15
      have e17 : ysl 36 = _ := (hy 36).symm.trans d17
      clear hdep hL hy d15 d17
      simp only [List.foldl, List.setIfInBounds_toArray, List.set_cons_succ, List.set_cons_zero, e15, e17] at ha
      subst ha
      clear e15 e17
      have hl0 : 0 < V.length := by have := HLV.out; omega
      refine wpOp_step rfl (fun K hK => ?_)
      go_simp
      exact hK _ _ ⟨_, rfl, (fun h => by cases h), rfl, .inl (Below.refl _ _)⟩
    · cases ho
      intro act u hF hL hdep
      have d15 := hdep { on := 15, ground := .guard } (by simp) rfl (fun p hp h => by simp at hp; try subst hp; first | rfl | exact absurd h (by decide)) _ rfl
      have d18 := hdep { on := 18, ground := .data } (by simp) rfl (fun p hp h => by simp at hp; try subst hp; first | rfl | exact absurd h (by decide)) _ rfl
      obtain ⟨ysl, ha, hy⟩ := hL.puts [19, 20, 21, 22, 23, 24, 25, 26, 27, 28, 29, 30, 31, 32, 33, 34, 35, 36, 37, 38, 39, 40, 41, 42, 43, 44, 45, 46, 2] (by kernel_rfl)
      have e15 : ysl 34 = _ := (hy 34).symm.trans d15
      have e18 : ysl 37 = _ := (hy 37).symm.trans d18
      clear hdep hL hy d15 d18
      simp only [List.foldl, List.setIfInBounds_toArray, List.set_cons_succ, List.set_cons_zero, e15, e18] at ha
      subst ha
      clear e15 e18
      have d0 := KV0.out u hF
      refine wpOp_step rfl (fun K hK => ?_)
      go_simp
      exact hK _ _ ⟨_, rfl, (fun h => by cases h), rfl, .inl (Below.refl _ _)⟩
    · cases ho
      intro act u hF hL hdep
      have d15 := hdep { on := 15, ground := .guard } (by simp) rfl (fun p hp h => by simp at hp; try subst hp; first | rfl | exact absurd h (by decide)) _ rfl
      have d19 := hdep { on := 19, ground := .data } (by simp) rfl (fun p hp h => by simp at hp; try subst hp; first | rfl | exact absurd h (by decide)) _ rfl
      obtain ⟨ysl, ha, hy⟩ := hL.puts [19, 20, 21, 22, 23, 24, 25, 26, 27, 28, 29, 30, 31, 32, 33, 34, 35, 36, 37, 38, 39, 40, 41, 42, 43, 44, 45, 46, 2] (by kernel_rfl)
      have e15 : ysl 34 = _ := (hy 34).symm.trans d15
      have e19 : ysl 38 = _ := (hy 38).symm.trans d19
      clear hdep hL hy d15 d19
      simp only [List.foldl, List.setIfInBounds_toArray, List.set_cons_succ, List.set_cons_zero, e15, e19] at ha
      subst ha
      clear e15 e19
      have hm := HV0.out
      refine wpOp_step rfl (fun K hK => ?_)
      go_simp
      exact hK _ _ ⟨_, rfl, (fun h => by cases h), rfl, .inl (Below.refl _ _)⟩
    · cases ho
      intro act u hF hL hdep
      have d15 := hdep { on := 15, ground := .data } (by simp) rfl (fun p hp h => by simp at hp; try subst hp; first | rfl | exact absurd h (by decide)) _ rfl
      have d20 := hdep { on := 20, ground := .data } (by simp) rfl (fun p hp h => by simp at hp; try subst hp; first | rfl | exact absurd h (by decide)) _ rfl
      obtain ⟨ysl, ha, hy⟩ := hL.puts [19, 20, 21, 22, 23, 24, 25, 26, 27, 28, 29, 30, 31, 32, 33, 34, 35, 36, 37, 38, 39, 40, 41, 42, 43, 44, 45, 46, 2] (by kernel_rfl)
      have e15 : ysl 34 = _ := (hy 34).symm.trans d15
      have e20 : ysl 39 = _ := (hy 39).symm.trans d20
      clear hdep hL hy d15 d20
      simp only [List.foldl, List.setIfInBounds_toArray, List.set_cons_succ, List.set_cons_zero, e15, e20] at ha
      subst ha
      clear e15 e20
      refine wpOp_step rfl (fun K hK => ?_)
      go_simp
      exact hK _ _ ⟨_, rfl, (fun h => by cases h), rfl, .inl (Below.refl _ _)⟩
    · cases ho
      intro act u hF hL hdep
      have d21 := hdep { on := 21, ground := .data } (by simp) rfl (fun p hp h => by simp at hp; try subst hp; first | rfl | exact absurd h (by decide)) _ rfl
      obtain ⟨ysl, ha, hy⟩ := hL.puts [19, 20, 21, 22, 23, 24, 25, 26, 27, 28, 29, 30, 31, 32, 33, 34, 35, 36, 37, 38, 39, 40, 41, 42, 43, 44, 45, 46, 2] (by kernel_rfl)
      have e21 : ysl 40 = _ := (hy 40).symm.trans d21
      clear hdep hL hy d21
      simp only [List.foldl, List.setIfInBounds_toArray, List.set_cons_succ, List.set_cons_zero, e21] at ha
      subst ha
      clear e21
      refine wpOp_step rfl (fun K hK => ?_)
      go_simp
      exact hK _ _ ⟨_, rfl, (fun h => by cases h), rfl, .inl (Below.refl _ _)⟩
    · cases ho
      intro act u hF hL hdep
      have d22 := hdep { on := 22, ground := .guard } (by simp) rfl (fun p hp h => by simp at hp; try subst hp; first | rfl | exact absurd h (by decide)) _ rfl
      obtain ⟨ysl, ha, hy⟩ := hL.puts [19, 20, 21, 22, 23, 24, 25, 26, 27, 28, 29, 30, 31, 32, 33, 34, 35, 36, 37, 38, 39, 40, 41, 42, 43, 44, 45, 46, 2] (by kernel_rfl)
      have e22 : ysl 41 = _ := (hy 41).symm.trans d22
      clear hdep hL hy d22
      simp only [List.foldl, List.setIfInBounds_toArray, List.set_cons_succ, List.set_cons_zero, e22] at ha
      subst ha
      clear e22
      refine wpOp_step rfl (fun K hK => ?_)
      go_simp
      exact hK _ _ ⟨_, rfl, (fun h => by cases h), rfl, .inl (Below.refl _ _)⟩
    · cases ho
      intro act u hF hL hdep
      have d22 := hdep { on := 22, ground := .guard } (by simp) rfl (fun p hp h => by simp at hp; try subst hp; first | rfl | exact absurd h (by decide)) _ rfl
      have d23 := hdep { on := 23, ground := .data } (by simp) rfl (fun p hp h => by simp at hp; try subst hp; first | rfl | exact absurd h (by decide)) _ rfl
      obtain ⟨ysl, ha, hy⟩ := hL.puts [19, 20, 21, 22, 23, 24, 25, 26, 27, 28, 29, 30, 31, 32, 33, 34, 35, 36, 37, 38, 39, 40, 41, 42, 43, 44, 45, 46, 2] (by kernel_rfl)
      have e22 : ysl 41 = _ := (hy 41).symm.trans d22
      have e23 : ysl 42 = _ := (hy 42).symm.trans d23
      clear hdep hL hy d22 d23
      simp only [List.foldl, List.setIfInBounds_toArray, List.set_cons_succ, List.set_cons_zero, e22, e23] at ha
      subst ha
      clear e22 e23
      refine wpOp_step rfl (fun K hK => ?_)
      go_simp
      exact hK _ _ ⟨_, rfl, (fun h => by cases h), rfl, .inl (Below.refl _ _)⟩
    · cases ho
      intro act u hF hL hdep
      have d22 := hdep { on := 22, ground := .guard } (by simp) rfl (fun p hp h => by simp at hp; try subst hp; first | rfl | exact absurd h (by decide)) _ rfl
      have d24 := hdep { on := 24, ground := .data } (by simp) rfl (fun p hp h => by simp at hp; try subst hp; first | rfl | exact absurd h (by decide)) _ rfl
      obtain ⟨ysl, ha, hy⟩ := hL.puts [19, 20, 21, 22, 23, 24, 25, 26, 27, 28, 29, 30, 31, 32, 33, 34, 35, 36, 37, 38, 39, 40, 41, 42, 43, 44, 45, 46, 2] (by kernel_rfl)
      have e22 : ysl 41 = _ := (hy 41).symm.trans d22
      have e24 : ysl 43 = _ := (hy 43).symm.trans d24
      clear hdep hL hy d22 d24
      simp only [List.foldl, List.setIfInBounds_toArray, List.set_cons_succ, List.set_cons_zero, e22, e24] at ha
      subst ha
      clear e22 e24
      refine wpOp_step rfl (fun K hK => ?_)
      go_simp
      exact hK _ _ ⟨_, rfl, (fun h => by cases h), rfl, .inl (Below.refl _ _)⟩
    · cases ho
      intro act u hF hL hdep
      have d22 := hdep { on := 22, ground := .guard } (by simp) rfl (fun p hp h => by simp at hp; try subst hp; first | rfl | exact absurd h (by decide)) _ rfl
      have d25 := hdep { on := 25, ground := .data } (by simp) rfl (fun p hp h => by simp at hp; try subst hp; first | rfl | exact absurd h (by decide)) _ rfl
      obtain ⟨ysl, ha, hy⟩ := hL.puts [19, 20, 21, 22, 23, 24, 25, 26, 27, 28, 29, 30, 31, 32, 33, 34, 35, 36, 37, 38, 39, 40, 41, 42, 43, 44, 45, 46, 2] (by kernel_rfl)
      have e22 : ysl 41 = _ := (hy 41).symm.trans d22
      have e25 : ysl 44 = _ := (hy 44).symm.trans d25
      clear hdep hL hy d22 d25
      simp only [List.foldl, List.setIfInBounds_toArray, List.set_cons_succ, List.set_cons_zero, e22, e25] at ha
      subst ha
      clear e22 e25
      refine wpOp_step rfl (fun K hK => ?_)
      go_simp
      exact hK _ _ ⟨_, rfl, (fun h => by cases h), rfl, .inl (Below.refl _ _)⟩
    · cases ho
      intro act u hF hL hdep
      have d22 := hdep { on := 22, ground := .data } (by simp) rfl (fun p hp h => by simp at hp; try subst hp; first | rfl | exact absurd h (by decide)) _ rfl
      have d26 := hdep { on := 26, ground := .data } (by simp) rfl (fun p hp h => by simp at hp; try subst hp; first | rfl | exact absurd h (by decide)) _ rfl
      obtain ⟨ysl, ha, hy⟩ := hL.puts [19, 20, 21, 22, 23, 24, 25, 26, 27, 28, 29, 30, 31, 32, 33, 34, 35, 36, 37, 38, 39, 40, 41, 42, 43, 44, 45, 46, 2] (by kernel_rfl)
      have e22 : ysl 41 = _ := (hy 41).symm.trans d22
      have e26 : ysl 45 = _ := (hy 45).symm.trans d26
      clear hdep hL hy d22 d26
      simp only [List.foldl, List.setIfInBounds_toArray, List.set_cons_succ, List.set_cons_zero, e22, e26] at ha
      subst ha
      clear e22 e26
      refine wpOp_step rfl (fun K hK => ?_)
      go_simp
      exact hK _ _ ⟨_, rfl, (fun h => by cases h), rfl, .inl (Below.refl _ _)⟩
    · cases ho
      intro act u hF hL hdep
      have d27 := hdep { on := 27, ground := .data } (by simp) rfl (fun p hp h => by simp at hp; try subst hp; first | rfl | exact absurd h (by decide)) _ rfl
      obtain ⟨ysl, ha, hy⟩ := hL.puts [19, 20, 21, 22, 23, 24, 25, 26, 27, 28, 29, 30, 31, 32, 33, 34, 35, 36, 37, 38, 39, 40, 41, 42, 43, 44, 45, 46, 2] (by kernel_rfl)
      have e27 : ysl 46 = _ := (hy 46).symm.trans d27
      clear hdep hL hy d27
      simp only [List.foldl, List.setIfInBounds_toArray, List.set_cons_succ, List.set_cons_zero, e27] at ha
      subst ha
      clear e27
      refine wpOp_step rfl (fun K hK => ?_)
      go_simp
      exact hK _ _ ⟨_, rfl, (fun h => by cases h), rfl, .inl (Below.refl _ _)⟩
    · exact absurd ho (by simp)
  case fin =>
    intro act u hF hL hsf
    have d28 := hsf 28 _ rfl (fun p hp => by simp at hp; try subst hp; decide)
    obtain ⟨ysl, ha, hy⟩ := hL.puts [19, 20, 21, 22, 23, 24, 25, 26, 27, 28, 29, 30, 31, 32, 33, 34, 35, 36, 37, 38, 39, 40, 41, 42, 43, 44, 45, 46, 2] (by kernel_rfl)
    have e28 : ysl 2 = _ := (hy 2).symm.trans d28
    clear hL hsf hy d28
    simp only [List.foldl, List.setIfInBounds_toArray, List.set_cons_succ, List.set_cons_zero, e28] at ha
    subst ha
    clear e28
    have HFu := Lib.hid (Fr.trans HF1.out hF)
    clear hF
    go_wp2_with fail
    go_ret
    exact ⟨rfl, HFu.out⟩
set_option maxRecDepth 8000 in
set_option maxHeartbeats 4000000 in
theorem spec_NamOk_h (M F V : List Int) (H : List Bool) (aM aF aV aH : Option Addr) (cM cF cV cH : Nat) (w : World) (h : SrcN w ⟨M, F, V, H⟩ aM aF aV aH) (hf : Few6 ⟨M, F, V, H⟩) (h1 : M.length = 8) (h2 : H.length = 20) (h3 : wordsB V 20 = true) (h4 : apB (M ++ F) = true) (h5 : M.getD 0 0 = 0) (h6 : V.getD 0 0 = 0) :
    Calls Try.prog 24 #[.agg #[.slice aM M.length cM, .slice aF F.length cF, .slice aV V.length cV, .slice aH H.length cH]] w fun e w' => e = .returned (.bool (H.getD 0 false)) ∧ Fr w w' := by
  obtain ⟨hM, hF, hV, hH⟩ := h
  obtain ⟨fM, fF, fV, fH⟩ := hf
  simp only at hM hF hV hH fM fF fV fH
  have F1 := Fr.alloc w (.cells #[.slice aM M.length cM, .slice aF F.length cF, .slice aV V.length cV, .slice aH H.length cH] 25)
  have HB := Lib.hid (Box4.new w (.slice aM M.length cM) (.slice aF F.length cF) (.slice aV V.length cV) (.slice aH H.length cH) 25 _ rfl)
  have E3 := spec_l4Words V aV cV 20 _ (hV.fr F1) (by omega)
  rw [show (20 : Int) = ((20 : Nat) : Int) from rfl, words_eq, h3] at E3
  have X3 := Lib.hid E3
  obtain ⟨hVk, hVl⟩ := wordsB_true h3
  obtain ⟨i0, hi, hz0, hz1, hz2⟩ := info_parts info_intV
  have hne1 : ((M.length : Int) != 8) = false := by simp; omega
  have hne2 : ((H.length : Int) != 20) = false := by simp; omega
  obtain ⟨gM, oM, rfl, lM, kM⟩ := hM (by omega)
  obtain ⟨gV, oV, rfl, lV, kV⟩ := hV (by omega)
  obtain ⟨gH, oH, rfl, lH, kH⟩ := hH (by omega)
  have HLM := Lib.hid h1
  have HLV := Lib.hid hVl
  have HLH := Lib.hid h2
  obtain ⟨MF, hMF⟩ : ∃ MF, M ++ F = MF := ⟨_, rfl⟩
  rw [hMF] at h4
  have HMF := Lib.hid hMF
  have HAP := Lib.hid h4
  have HF1 := Lib.hid F1
  have KM := Lib.hid (fun (u : World) (f : Fr (w.alloc (.cells #[.slice (some ⟨gM, oM, none⟩) M.length cM, .slice aF F.length cF, .slice (some ⟨gV, oV, none⟩) V.length cV, .slice (some ⟨gH, oH, none⟩) H.length cH] 25)) u) => show ∀ i, i < M.length → u.cell? ⟨gM, oM + i, none⟩ = some (ivl M i) from fun i hi => by rw [(Fr.trans HF1.out f).cell lM]; exact kM i hi)
  have KM0 := Lib.hid (fun (u : World) (f : Fr (w.alloc (.cells #[.slice (some ⟨gM, oM, none⟩) M.length cM, .slice aF F.length cF, .slice (some ⟨gV, oV, none⟩) V.length cV, .slice (some ⟨gH, oH, none⟩) H.length cH] 25)) u) => show u.cell? ⟨gM, oM, none⟩ = some (.int .i64 (M.getD 0 0)) from KM.out u f 0 (by omega))
  have KV0 := Lib.hid (fun (u : World) (f : Fr (w.alloc (.cells #[.slice (some ⟨gM, oM, none⟩) M.length cM, .slice aF F.length cF, .slice (some ⟨gV, oV, none⟩) V.length cV, .slice (some ⟨gH, oH, none⟩) H.length cH] 25)) u) => show u.cell? ⟨gV, oV, none⟩ = some (.int .i64 (V.getD 0 0)) from by rw [(Fr.trans HF1.out f).cell lV]; exact kV 0 (by omega))
  have KH0 := Lib.hid (fun (u : World) (f : Fr (w.alloc (.cells #[.slice (some ⟨gM, oM, none⟩) M.length cM, .slice aF F.length cF, .slice (some ⟨gV, oV, none⟩) V.length cV, .slice (some ⟨gH, oH, none⟩) H.length cH] 25)) u) => show u.cell? ⟨gH, oH, none⟩ = some (.bool (H.getD 0 false)) from by rw [(Fr.trans HF1.out f).cell lH]; exact kH 0 (by omega))
  have HSF := Lib.hid (fun (u : World) (f : Fr (w.alloc (.cells #[.slice (some ⟨gM, oM, none⟩) M.length cM, .slice aF F.length cF, .slice (some ⟨gV, oV, none⟩) V.length cV, .slice (some ⟨gH, oH, none⟩) H.length cH] 25)) u) => show 0 < F.length → ∃ g o, aF = some ⟨g, o, none⟩ ∧ ∀ i, i < F.length → u.cell? ⟨g, o + i, none⟩ = some (ivl F i) from fun h0 => by
    obtain ⟨g, o, e, l, k⟩ := hF h0
    exact ⟨g, o, e, fun i hi => by rw [(Fr.trans HF1.out f).cell l]; exact k i hi⟩)
  generalize M.getD 0 0 = m0 at *
  generalize V.getD 0 0 = v0 at *
  generalize H.getD 0 false = b0 at *
  have HM0 := Lib.hid h5
  clear h5
  have HV0 := Lib.hid h6
  clear h6
  clear hMF h1 h2 h3 h4 hVk hVl kM kV kH hF hH E3 lM lV lH F1
  go_enter Try.func24, Try.ntmps24
  go_wp2_with fail
  refine X3.out.mono ?_
  rintro e w' ⟨rfl, rfl⟩
  go_wp2_with fail
  generalize (w.alloc (.cells #[.slice (some ⟨gM, oM, none⟩) M.length cM, .slice aF F.length cF, .slice (some ⟨gV, oV, none⟩) V.length cV, .slice (some ⟨gH, oH, none⟩) H.length cH] 25)) = u0 at *
  refine wp_region_spend 47 [(6, 3)] (fun i v u => match i with | 0 => ∃ g, v = .slice (some ⟨g, 0, none⟩) 0 0 | 1 => v = .pointer (some ⟨w.heap.size, 0, none⟩) | 2 => v = .slice (some ⟨gM, oM, none⟩) M.length cM | 3 => ∃ g c, v = .slice (some ⟨g, 0, none⟩) M.length c ∧ u0.heap.size ≤ g ∧ Ro u g M ∧ Ca u g M.length c | 4 => v = .pointer (some ⟨w.heap.size, 1, none⟩) | 5 => v = .slice aF F.length cF | 6 => ∃ ao c, v = .slice ao MF.length c ∧ Src u MF.length (ivl MF) ao ∧ MF.length ≤ c | 7 => v = .bool true | 8 => v = .bool true | 9 => v = .pointer (some ⟨w.heap.size, 0, none⟩) | 10 => v = .slice (some ⟨gM, oM, none⟩) M.length cM | 11 => v = .pointer (some ⟨gM, oM, none⟩) | 12 => v = .int .i64 m0 | 13 => v = .bool true | 14 => v = .bool true | 15 => v = .bool true | 16 => v = .pointer (some ⟨w.heap.size, 2, none⟩) | 17 => v = .slice (some ⟨gV, oV, none⟩) V.length cV | 18 => v = .pointer (some ⟨gV, oV, none⟩) | 19 => v = .int .i64 v0 | 20 => v = .bool true | 21 => v = .bool true | 22 => v = .bool true | 23 => v = .pointer (some ⟨w.heap.size, 3, none⟩) | 24 => v = .slice (some ⟨gH, oH, none⟩) H.length cH | 25 => v = .pointer (some ⟨gH, oH, none⟩) | 26 => v = .bool b0 | 27 => v = .bool b0 | 28 => v = .bool b0 | _ => True) ?mono ?mono2 (by kernel_rfl) (by kernel_rfl) rfl (by kernel_rfl) ?step ?fin
  case mono =>
    intro j v u u' hsz h f
    rcases j with _ | _ | _ | _ | _ | _ | _ | _ | _ | _ | _ | _ | _ | _ | _ | _ | _ | _ | _ | _ | _ | _ | _ | _ | _ | _ | _ | _ | _ | j
    · exact h
    · exact h
    · exact h
    · obtain ⟨g, c, e, hb, r, k⟩ := h
      exact ⟨g, c, e, hb, r.fr f, k.but (L := []) (But.of f) (by simp)⟩
    · exact h
    · exact h
    · obtain ⟨ao, c, e, s, k⟩ := h
      exact ⟨ao, c, e, s.fr f, k⟩
    · exact h
    · exact h
    · exact h
    · exact h
    · exact h
    · exact h
    · exact h
    · exact h
    · exact h
    · exact h
    · exact h
    · exact h
    · exact h
    · exact h
    · exact h
    · exact h
    · exact h
    · exact h
    · exact h
    · exact h
    · exact h
    · exact h
    · trivial
  case mono2 =>
    intro j v u u' g hsz hne h hg f
    rcases j with _ | _ | _ | _ | _ | _ | _ | _ | _ | _ | _ | _ | _ | _ | _ | _ | _ | _ | _ | _ | _ | _ | _ | _ | _ | _ | _ | _ | _ | j
    · exact h
    · exact h
    · exact h
    · exact absurd rfl (hne (6, 3) (by simp)).1
    · exact h
    · exact h
    · exact absurd rfl (hne (6, 3) (by simp)).2
    · exact h
    · exact h
    · exact h
    · exact h
    · exact h
    · exact h
    · exact h
    · exact h
    · exact h
    · exact h
    · exact h
    · exact h
    · exact h
    · exact h
    · exact h
    · exact h
    · exact h
    · exact h
    · exact h
    · exact h
    · exact h
    · exact h
    · trivial
  case step =>
    intro i o ho
    rcases i with _ | _ | _ | _ | _ | _ | _ | _ | _ | _ | _ | _ | _ | _ | _ | _ | _ | _ | _ | _ | _ | _ | _ | _ | _ | _ | _ | _ | _ | i
    · cases ho
      intro act u hF hL hdep
      obtain ⟨ysl, ha, hy⟩ := hL.puts [19, 20, 21, 22, 23, 24, 25, 26, 27, 28, 29, 30, 31, 32, 33, 34, 35, 36, 37, 38, 39, 40, 41, 42, 43, 44, 45, 46, 2] (by kernel_rfl)
      clear hdep hL hy
      simp only [List.foldl, List.setIfInBounds_toArray, List.set_cons_succ, List.set_cons_zero] at ha
      subst ha
      refine wpOp_step rfl (fun K hK => ?_)
      go_simp
      exact hK _ _ ⟨_, rfl, (fun h => by cases h), ⟨_, rfl⟩, .inl (Fr.alloc _ _)⟩
    · cases ho
      intro act u hF hL hdep
      obtain ⟨ysl, ha, hy⟩ := hL.puts [19, 20, 21, 22, 23, 24, 25, 26, 27, 28, 29, 30, 31, 32, 33, 34, 35, 36, 37, 38, 39, 40, 41, 42, 43, 44, 45, 46, 2] (by kernel_rfl)
      clear hdep hL hy
      simp only [List.foldl, List.setIfInBounds_toArray, List.set_cons_succ, List.set_cons_zero] at ha
      subst ha
      refine wpOp_step rfl (fun K hK => ?_)
      go_simp
      exact hK _ _ ⟨_, rfl, (fun h => by cases h), rfl, .inl (Below.refl _ _)⟩
    · cases ho
      intro act u hF hL hdep
      have d1 := hdep { on := 1, ground := .data } (by simp) rfl (fun p hp h => by simp at hp; try subst hp; first | rfl | exact absurd h (by decide)) _ rfl
      obtain ⟨ysl, ha, hy⟩ := hL.puts [19, 20, 21, 22, 23, 24, 25, 26, 27, 28, 29, 30, 31, 32, 33, 34, 35, 36, 37, 38, 39, 40, 41, 42, 43, 44, 45, 46, 2] (by kernel_rfl)
      have e1 : ysl 20 = _ := (hy 20).symm.trans d1
      clear hdep hL hy d1
      simp only [List.foldl, List.setIfInBounds_toArray, List.set_cons_succ, List.set_cons_zero, e1] at ha
      subst ha
      clear e1
      obtain ⟨_, c0, c1, c2, c3, _, _, _, _⟩ := HB.out.fr hF
      refine wpOp_step rfl (fun K hK => ?_)
      go_simp
      exact hK _ _ ⟨_, rfl, (fun h => by cases h), rfl, .inl (Below.refl _ _)⟩
    · cases ho
      intro act u hF hL hdep
      have d0 := hdep { on := 0, ground := .data } (by simp) rfl (fun p hp h => by simp at hp; try subst hp; first | rfl | exact absurd h (by decide)) _ rfl
      have d2 := hdep { on := 2, ground := .data } (by simp) rfl (fun p hp h => by simp at hp; try subst hp; first | rfl | exact absurd h (by decide)) _ rfl
      obtain ⟨ysl, ha, hy⟩ := hL.puts [19, 20, 21, 22, 23, 24, 25, 26, 27, 28, 29, 30, 31, 32, 33, 34, 35, 36, 37, 38, 39, 40, 41, 42, 43, 44, 45, 46, 2] (by kernel_rfl)
      obtain ⟨g0, h0⟩ := d0
      have e0 : ysl 19 = .slice (some ⟨g0, 0, none⟩) 0 0 := (hy 19).symm.trans h0
      have e2 : ysl 21 = _ := (hy 21).symm.trans d2
      clear hdep hL hy d2 h0
      simp only [List.foldl, List.setIfInBounds_toArray, List.set_cons_succ, List.set_cons_zero, e0, e2] at ha
      subst ha
      clear e0 e2
      refine wpOp_step rfl (fun K hK => ?_)
      rw [if_pos (by simp [Region.wanted])]
      refine wp_append_new _ _ 22 rfl 3 i0 (.int .i64 0) Try.underlying22 hi hz0 hz1 hz2 _ rfl ⟨gM, oM, none⟩ _ _ (M.map (Value.int .i64)) rfl (by simp) (cells_of M (KM.out u hF)) (ints_one _) (by have := HLM.out; omega) (by have := HLM.out; omega) ?_
      intro cp zs hzs
      refine hK _ _ ⟨_, rfl, (fun h => by cases h), ⟨_, cp, rfl, hF.size, ro_new u.drew M zs _, ca_new u.drew M zs cp (hzs rfl)⟩, .inl ((Below.drew (Below.refl _ _)).alloc (Nat.le_refl _) _)⟩
    · cases ho
      intro act u hF hL hdep
      obtain ⟨ysl, ha, hy⟩ := hL.puts [19, 20, 21, 22, 23, 24, 25, 26, 27, 28, 29, 30, 31, 32, 33, 34, 35, 36, 37, 38, 39, 40, 41, 42, 43, 44, 45, 46, 2] (by kernel_rfl)
      clear hdep hL hy
      simp only [List.foldl, List.setIfInBounds_toArray, List.set_cons_succ, List.set_cons_zero] at ha
      subst ha
      refine wpOp_step rfl (fun K hK => ?_)
      go_simp
      exact hK _ _ ⟨_, rfl, (fun h => by cases h), rfl, .inl (Below.refl _ _)⟩
    · cases ho
      intro act u hF hL hdep
      have d4 := hdep { on := 4, ground := .data } (by simp) rfl (fun p hp h => by simp at hp; try subst hp; first | rfl | exact absurd h (by decide)) _ rfl
      obtain ⟨ysl, ha, hy⟩ := hL.puts [19, 20, 21, 22, 23, 24, 25, 26, 27, 28, 29, 30, 31, 32, 33, 34, 35, 36, 37, 38, 39, 40, 41, 42, 43, 44, 45, 46, 2] (by kernel_rfl)
      have e4 : ysl 23 = _ := (hy 23).symm.trans d4
      clear hdep hL hy d4
      simp only [List.foldl, List.setIfInBounds_toArray, List.set_cons_succ, List.set_cons_zero, e4] at ha
      subst ha
      clear e4
      obtain ⟨_, c0, c1, c2, c3, _, _, _, _⟩ := HB.out.fr hF
      refine wpOp_step rfl (fun K hK => ?_)
      go_simp
      exact hK _ _ ⟨_, rfl, (fun h => by cases h), rfl, .inl (Below.refl _ _)⟩
    · cases ho
      intro act u hF hL hdep
      have d3 := hdep { on := 3, ground := .data } (by simp) rfl (fun p hp h => by simp at hp; try subst hp; first | rfl | exact absurd h (by decide)) _ rfl
      have d5 := hdep { on := 5, ground := .data } (by simp) rfl (fun p hp h => by simp at hp; try subst hp; first | rfl | exact absurd h (by decide)) _ rfl
      obtain ⟨ysl, ha, hy⟩ := hL.puts [19, 20, 21, 22, 23, 24, 25, 26, 27, 28, 29, 30, 31, 32, 33, 34, 35, 36, 37, 38, 39, 40, 41, 42, 43, 44, 45, 46, 2] (by kernel_rfl)
      obtain ⟨g3, c3, h3, b3, r3, k3⟩ := d3
      have e3 : ysl 22 = .slice (some ⟨g3, 0, none⟩) M.length c3 := (hy 22).symm.trans h3
      have e5 : ysl 24 = _ := (hy 24).symm.trans d5
      clear hdep hL hy d5 h3
      simp only [List.foldl, List.setIfInBounds_toArray, List.set_cons_succ, List.set_cons_zero, e3, e5] at ha
      subst ha
      clear e3 e5
      by_cases hz : F.length = 0
      · have hn : M = MF := by rw [← HMF.out, List.length_eq_zero_iff.1 hz, List.append_nil]
        rw [hz]
        refine wpOp_step rfl (fun K hK => ?_)
        rw [if_pos (by simp [Region.wanted])]
        refine wp_append_zero _ _ 22 rfl 3 i0 Try.underlying22 hi _ M.length c3 (by obtain ⟨_, _, _, hq, _⟩ := k3; exact hq) rfl _ _ rfl ?_
        refine hK _ _ ⟨_, rfl, (fun h => by cases h), ⟨_, c3, by rw [hn], by rw [← hn]; exact r3.src, by obtain ⟨_, _, _, hq, _⟩ := k3; rw [← hn]; exact hq⟩, .inl (Below.refl _ _)⟩
      · obtain ⟨gF, oF, rfl, kF⟩ := HSF.out u hF (by omega)
        refine wpOp_append_own_at rfl rfl _ _ 22 rfl u0.heap.size 3 i0 (.int .i64 0) 1 8 Try.underlying22 hi hz0 hz1 hz2 rfl (by decide) _ M.length (M.map (Value.int .i64)) rfl (ca_own k3 r3 b3) ⟨gF, oF, none⟩ F.length cF (F.map (Value.int .i64)) rfl (by simp) (cells_of F kF) (ints_one _) (by have := HLM.out; have : maxLen = 9223372036854775807 := rfl; omega) (by have := HLM.out; omega) hF.size ?_
        intro v' w' ho hg _
        rw [← List.map_append, HMF.out] at ho
        obtain ⟨ao, cp, rfl, hs, hc⟩ := own_row ho
        exact ⟨_, rfl, (fun h => by cases h), ⟨ao, cp, rfl, hs, hc⟩, .inr ⟨⟨3, by simp, fun p hp => by simpa using hp⟩, g3, b3, but_grown hg⟩⟩
    · cases ho
      intro act u hF hL hdep
      have d6 := hdep { on := 6, ground := .data } (by simp) rfl (fun p hp h => by simp at hp; try subst hp; first | rfl | exact absurd h (by decide)) _ rfl
      obtain ⟨ysl, ha, hy⟩ := hL.puts [19, 20, 21, 22, 23, 24, 25, 26, 27, 28, 29, 30, 31, 32, 33, 34, 35, 36, 37, 38, 39, 40, 41, 42, 43, 44, 45, 46, 2] (by kernel_rfl)
      obtain ⟨ao6, c6, h6, s6, k6⟩ := d6
      have e6 : ysl 25 = .slice ao6 MF.length c6 := (hy 25).symm.trans h6
      clear hdep hL hy h6
      simp only [List.foldl, List.setIfInBounds_toArray, List.set_cons_succ, List.set_cons_zero, e6] at ha
      subst ha
      clear e6
      refine wpOp_step rfl (fun K hK => ?_)
      go_simp
      refine (spec_l6Apart MF _ _ u s6 (by have := HLM.out; rw [← HMF.out]; simp; omega) k6).mono ?_
      rintro e u' ⟨rfl, m7, hm7⟩
      rw [HAP.out]
      go_simp
      exact hK _ _ ⟨_, rfl, (fun h => by cases h), rfl, .inl (by rw [← hm7]; exact Below.drewN (Below.refl _ _) _)⟩
    · cases ho
      intro act u hF hL hdep
      have d7 := hdep { on := 7, ground := .data } (by simp) rfl (fun p hp h => by simp at hp; try subst hp; first | rfl | exact absurd h (by decide)) _ rfl
      obtain ⟨ysl, ha, hy⟩ := hL.puts [19, 20, 21, 22, 23, 24, 25, 26, 27, 28, 29, 30, 31, 32, 33, 34, 35, 36, 37, 38, 39, 40, 41, 42, 43, 44, 45, 46, 2] (by kernel_rfl)
      have e7 : ysl 26 = _ := (hy 26).symm.trans d7
      clear hdep hL hy d7
      simp only [List.foldl, List.setIfInBounds_toArray, List.set_cons_succ, List.set_cons_zero, e7] at ha
      subst ha
      clear e7
      refine wpOp_step rfl (fun K hK => ?_)
      go_simp
      exact hK _ _ ⟨_, rfl, (fun h => by cases h), rfl, .inl (Below.refl _ _)⟩
    · cases ho
      intro act u hF hL hdep
      have d8 := hdep { on := 8, ground := .guard } (by simp) rfl (fun p hp h => by simp at hp; try subst hp; first | rfl | exact absurd h (by decide)) _ rfl
      obtain ⟨ysl, ha, hy⟩ := hL.puts [19, 20, 21, 22, 23, 24, 25, 26, 27, 28, 29, 30, 31, 32, 33, 34, 35, 36, 37, 38, 39, 40, 41, 42, 43, 44, 45, 46, 2] (by kernel_rfl)
      have e8 : ysl 27 = _ := (hy 27).symm.trans d8
      clear hdep hL hy d8
      simp only [List.foldl, List.setIfInBounds_toArray, List.set_cons_succ, List.set_cons_zero, e8] at ha
      subst ha
      clear e8
      refine wpOp_step rfl (fun K hK => ?_)
      go_simp
      exact hK _ _ ⟨_, rfl, (fun h => by cases h), rfl, .inl (Below.refl _ _)⟩
    · cases ho
      intro act u hF hL hdep
      have d8 := hdep { on := 8, ground := .guard } (by simp) rfl (fun p hp h => by simp at hp; try subst hp; first | rfl | exact absurd h (by decide)) _ rfl
      have d9 := hdep { on := 9, ground := .data } (by simp) rfl (fun p hp h => by simp at hp; try subst hp; first | rfl | exact absurd h (by decide)) _ rfl
      obtain ⟨ysl, ha, hy⟩ := hL.puts [19, 20, 21, 22, 23, 24, 25, 26, 27, 28, 29, 30, 31, 32, 33, 34, 35, 36, 37, 38, 39, 40, 41, 42, 43, 44, 45, 46, 2] (by kernel_rfl)
      have e8 : ysl 27 = _ := (hy 27).symm.trans d8
      have e9 : ysl 28 = _ := (hy 28).symm.trans d9
      clear hdep hL hy d8 d9
      simp only [List.foldl, List.setIfInBounds_toArray, List.set_cons_succ, List.set_cons_zero, e8, e9] at ha
      subst ha
      clear e8 e9
      obtain ⟨_, c0, c1, c2, c3, _, _, _, _⟩ := HB.out.fr hF
      refine wpOp_step rfl (fun K hK => ?_)
      go_simp
      exact hK _ _ ⟨_, rfl, (fun h => by cases h), rfl, .inl (Below.refl _ _)⟩
    · cases ho
      intro act u hF hL hdep
      have d8 := hdep { on := 8, ground := .guard } (by simp) rfl (fun p hp h => by simp at hp; try subst hp; first | rfl | exact absurd h (by decide)) _ rfl
      have d10 := hdep { on := 10, ground := .data } (by simp) rfl (fun p hp h => by simp at hp; try subst hp; first | rfl | exact absurd h (by decide)) _ rfl
      obtain ⟨ysl, ha, hy⟩ := hL.puts [19, 20, 21, 22, 23, 24, 25, 26, 27, 28, 29, 30, 31, 32, 33, 34, 35, 36, 37, 38, 39, 40, 41, 42, 43, 44, 45, 46, 2] (by kernel_rfl)
      have e8 : ysl 27 = _ := (hy 27).symm.trans d8
      have e10 : ysl 29 = _ := (hy 29).symm.trans d10
      clear hdep hL hy d8 d10
      simp only [List.foldl, List.setIfInBounds_toArray, List.set_cons_succ, List.set_cons_zero, e8, e10] at ha
      subst ha
      clear e8 e10
      have hl0 : 0 < M.length := by have := HLM.out; omega
      refine wpOp_step rfl (fun K hK => ?_)
      go_simp
      exact hK _ _ ⟨_, rfl, (fun h => by cases h), rfl, .inl (Below.refl _ _)⟩
    · cases ho
      intro act u hF hL hdep
      have d8 := hdep { on := 8, ground := .guard } (by simp) rfl (fun p hp h => by simp at hp; try subst hp; first | rfl | exact absurd h (by decide)) _ rfl
      have d11 := hdep { on := 11, ground := .data } (by simp) rfl (fun p hp h => by simp at hp; try subst hp; first | rfl | exact absurd h (by decide)) _ rfl
      obtain ⟨ysl, ha, hy⟩ := hL.puts [19, 20, 21, 22, 23, 24, 25, 26, 27, 28, 29, 30, 31, 32, 33, 34, 35, 36, 37, 38, 39, 40, 41, 42, 43, 44, 45, 46, 2] (by kernel_rfl)
      have e8 : ysl 27 = _ := (hy 27).symm.trans d8
      have e11 : ysl 30 = _ := (hy 30).symm.trans d11
      clear hdep hL hy d8 d11
      simp only [List.foldl, List.setIfInBounds_toArray, List.set_cons_succ, List.set_cons_zero, e8, e11] at ha
      subst ha
      clear e8 e11
      have d0 := KM0.out u hF
      refine wpOp_step rfl (fun K hK => ?_)
      go_simp
      exact hK _ _ ⟨_, rfl, (fun h => by cases h), rfl, .inl (Below.refl _ _)⟩
    · cases ho
      intro act u hF hL hdep
      have d8 := hdep { on := 8, ground := .guard } (by simp) rfl (fun p hp h => by simp at hp; try subst hp; first | rfl | exact absurd h (by decide)) _ rfl
      have d12 := hdep { on := 12, ground := .data } (by simp) rfl (fun p hp h => by simp at hp; try subst hp; first | rfl | exact absurd h (by decide)) _ rfl
      obtain ⟨ysl, ha, hy⟩ := hL.puts [19, 20, 21, 22, 23, 24, 25, 26, 27, 28, 29, 30, 31, 32, 33, 34, 35, 36, 37, 38, 39, 40, 41, 42, 43, 44, 45, 46, 2] (by kernel_rfl)
      have e8 : ysl 27 = _ := (hy 27).symm.trans d8
      have e12 : ysl 31 = _ := (hy 31).symm.trans d12
      clear hdep hL hy d8 d12
      simp only [List.foldl, List.setIfInBounds_toArray, List.set_cons_succ, List.set_cons_zero, e8, e12] at ha
      subst ha
      clear e8 e12
      have hm : (m0 == 0) = true := by rw [show m0 = 0 from HM0.out]; rfl
      refine wpOp_step rfl (fun K hK => ?_)
      go_simp
      exact hK _ _ ⟨_, rfl, (fun h => by cases h), rfl, .inl (Below.refl _ _)⟩
    · cases ho
      intro act u hF hL hdep
      have d8 := hdep { on := 8, ground := .data } (by simp) rfl (fun p hp h => by simp at hp; try subst hp; first | rfl | exact absurd h (by decide)) _ rfl
      have d13 := hdep { on := 13, ground := .data } (by simp) rfl (fun p hp h => by simp at hp; try subst hp; first | rfl | exact absurd h (by decide)) _ rfl
      obtain ⟨ysl, ha, hy⟩ := hL.puts [19, 20, 21, 22, 23, 24, 25, 26, 27, 28, 29, 30, 31, 32, 33, 34, 35, 36, 37, 38, 39, 40, 41, 42, 43, 44, 45, 46, 2] (by kernel_rfl)
      have e8 : ysl 27 = _ := (hy 27).symm.trans d8
      have e13 : ysl 32 = _ := (hy 32).symm.trans d13
      clear hdep hL hy d8 d13
      simp only [List.foldl, List.setIfInBounds_toArray, List.set_cons_succ, List.set_cons_zero, e8, e13] at ha
      subst ha
      clear e8 e13
      refine wpOp_step rfl (fun K hK => ?_)
      go_simp
      exact hK _ _ ⟨_, rfl, (fun h => by cases h), rfl, .inl (Below.refl _ _)⟩
    · cases ho
      intro act u hF hL hdep
      have d14 := hdep { on := 14, ground := .data } (by simp) rfl (fun p hp h => by simp at hp; try subst hp; first | rfl | exact absurd h (by decide)) _ rfl
      obtain ⟨ysl, ha, hy⟩ := hL.puts [19, 20, 21, 22, 23, 24, 25, 26, 27, 28, 29, 30, 31, 32, 33, 34, 35, 36, 37, 38, 39, 40, 41, 42, 43, 44, 45, 46, 2] (by kernel_rfl)
      have e14 : ysl 33 = _ := (hy 33).symm.trans d14
      clear hdep hL hy d14
      simp only [List.foldl, List.setIfInBounds_toArray, List.set_cons_succ, List.set_cons_zero, e14] at ha
      subst ha
      clear e14
      refine wpOp_step rfl (fun K hK => ?_)
      go_simp
      exact hK _ _ ⟨_, rfl, (fun h => by cases h), rfl, .inl (Below.refl _ _)⟩
    · cases ho
      intro act u hF hL hdep
      have d15 := hdep { on := 15, ground := .guard } (by simp) rfl (fun p hp h => by simp at hp; try subst hp; first | rfl | exact absurd h (by decide)) _ rfl
      obtain ⟨ysl, ha, hy⟩ := hL.puts [19, 20, 21, 22, 23, 24, 25, 26, 27, 28, 29, 30, 31, 32, 33, 34, 35, 36, 37, 38, 39, 40, 41, 42, 43, 44, 45, 46, 2] (by kernel_rfl)
      have e15 : ysl 34 = _ := (hy 34).symm.trans d15
      clear hdep hL hy d15
      simp only [List.foldl, List.setIfInBounds_toArray, List.set_cons_succ, List.set_cons_zero, e15] at ha
      subst ha
      clear e15
      refine wpOp_step rfl (fun K hK => ?_)
      go_simp
      exact hK _ _ ⟨_, rfl, (fun h => by cases h), rfl, .inl (Below.refl _ _)⟩
    · cases ho
      intro act u hF hL hdep
      have d15 := hdep { on := 15, ground := .guard } (by simp) rfl (fun p hp h => by simp at hp; try subst hp; first | rfl | exact absurd h (by decide)) _ rfl
      have d16 := hdep { on := 16, ground := .data } (by simp) rfl (fun p hp h => by simp at hp; try subst hp; first | rfl | exact absurd h (by decide)) _ rfl
      obtain ⟨ysl, ha, hy⟩ := hL.puts [19, 20, 21, 22, 23, 24, 25, 26, 27, 28, 29, 30, 31, 32, 33, 34, 35, 36, 37, 38, 39, 40, 41, 42, 43, 44, 45, 46, 2] (by kernel_rfl)
      have e15 : ysl 34 = _ := (hy 34).symm.trans d15
      have e16 : ysl 35 = _ := (hy 35).symm.trans d16
      clear hdep hL hy d15 d16
      simp only [List.foldl, List.setIfInBounds_toArray, List.set_cons_succ, List.set_cons_zero, e15, e16] at ha
      subst ha
      clear e15 e16
      obtain ⟨_, c0, c1, c2, c3, _, _, _, _⟩ := HB.out.fr hF
      refine wpOp_step rfl (fun K hK => ?_)
      go_simp
      exact hK _ _ ⟨_, rfl, (fun h => by cases h), rfl, .inl (Below.refl _ _)⟩
    · cases ho
      intro act u hF hL hdep
      have d15 := hdep { on := 15, ground := .guard } (by simp) rfl (fun p hp h => by simp at hp; try subst hp; first | rfl | exact absurd h (by decide)) _ rfl
      have d17 := hdep { on := 17, ground := .data } (by simp) rfl (fun p hp h => by simp at hp; try subst hp; first | rfl | exact absurd h (by decide)) _ rfl
      obtain ⟨ysl, ha, hy⟩ := hL.puts [19, 20, 21, 22, 23, 24, 25, 26, 27, 28, 29, 30, 31, 32, 33, 34, 35, 36, 37, 38, 39, 40, 41, 42, 43, 44, 45, 46, 2] (by kernel_rfl)
      have e15 : ysl 34 = _ := (hy 34).symm.trans d15
      have e17 : ysl 36 = _ := (hy 36).symm.trans d17
      clear hdep hL hy d15 d17
      simp only [List.foldl, List.setIfInBounds_toArray, List.set_cons_succ, List.set_cons_zero, e15, e17] at ha
      subst ha
      clear e15 e17
      have hl0 : 0 < V.length := by have := HLV.out; omega
      refine wpOp_step rfl (fun K hK => ?_)
      go_simp
      exact hK _ _ ⟨_, rfl, (fun h => by cases h), rfl, .inl (Below.refl _ _)⟩
    · cases ho
      intro act u hF hL hdep
      have d15 := hdep { on := 15, ground := .guard } (by simp) rfl (fun p hp h => by simp at hp; try subst hp; first | rfl | exact absurd h (by decide)) _ rfl
      have d18 := hdep { on := 18, ground := .data } (by simp) rfl (fun p hp h => by simp at hp; try subst hp; first | rfl | exact absurd h (by decide)) _ rfl
      obtain ⟨ysl, ha, hy⟩ := hL.puts [19, 20, 21, 22, 23, 24, 25, 26, 27, 28, 29, 30, 31, 32, 33, 34, 35, 36, 37, 38, 39, 40, 41, 42, 43, 44, 45, 46, 2] (by kernel_rfl)
      have e15 : ysl 34 = _ := (hy 34).symm.trans d15
      have e18 : ysl 37 = _ := (hy 37).symm.trans d18
      clear hdep hL hy d15 d18
      simp only [List.foldl, List.setIfInBounds_toArray, List.set_cons_succ, List.set_cons_zero, e15, e18] at ha
      subst ha
      clear e15 e18
      have d0 := KV0.out u hF
      refine wpOp_step rfl (fun K hK => ?_)
      go_simp
      exact hK _ _ ⟨_, rfl, (fun h => by cases h), rfl, .inl (Below.refl _ _)⟩
    · cases ho
      intro act u hF hL hdep
      have d15 := hdep { on := 15, ground := .guard } (by simp) rfl (fun p hp h => by simp at hp; try subst hp; first | rfl | exact absurd h (by decide)) _ rfl
      have d19 := hdep { on := 19, ground := .data } (by simp) rfl (fun p hp h => by simp at hp; try subst hp; first | rfl | exact absurd h (by decide)) _ rfl
      obtain ⟨ysl, ha, hy⟩ := hL.puts [19, 20, 21, 22, 23, 24, 25, 26, 27, 28, 29, 30, 31, 32, 33, 34, 35, 36, 37, 38, 39, 40, 41, 42, 43, 44, 45, 46, 2] (by kernel_rfl)
      have e15 : ysl 34 = _ := (hy 34).symm.trans d15
      have e19 : ysl 38 = _ := (hy 38).symm.trans d19
      clear hdep hL hy d15 d19
      simp only [List.foldl, List.setIfInBounds_toArray, List.set_cons_succ, List.set_cons_zero, e15, e19] at ha
      subst ha
      clear e15 e19
      have hm : (v0 == 0) = true := by rw [show v0 = 0 from HV0.out]; rfl
      refine wpOp_step rfl (fun K hK => ?_)
      go_simp
      exact hK _ _ ⟨_, rfl, (fun h => by cases h), rfl, .inl (Below.refl _ _)⟩
    · cases ho
      intro act u hF hL hdep
      have d15 := hdep { on := 15, ground := .data } (by simp) rfl (fun p hp h => by simp at hp; try subst hp; first | rfl | exact absurd h (by decide)) _ rfl
      have d20 := hdep { on := 20, ground := .data } (by simp) rfl (fun p hp h => by simp at hp; try subst hp; first | rfl | exact absurd h (by decide)) _ rfl
      obtain ⟨ysl, ha, hy⟩ := hL.puts [19, 20, 21, 22, 23, 24, 25, 26, 27, 28, 29, 30, 31, 32, 33, 34, 35, 36, 37, 38, 39, 40, 41, 42, 43, 44, 45, 46, 2] (by kernel_rfl)
      have e15 : ysl 34 = _ := (hy 34).symm.trans d15
      have e20 : ysl 39 = _ := (hy 39).symm.trans d20
      clear hdep hL hy d15 d20
      simp only [List.foldl, List.setIfInBounds_toArray, List.set_cons_succ, List.set_cons_zero, e15, e20] at ha
      subst ha
      clear e15 e20
      refine wpOp_step rfl (fun K hK => ?_)
      go_simp
      exact hK _ _ ⟨_, rfl, (fun h => by cases h), rfl, .inl (Below.refl _ _)⟩
    · cases ho
      intro act u hF hL hdep
      have d21 := hdep { on := 21, ground := .data } (by simp) rfl (fun p hp h => by simp at hp; try subst hp; first | rfl | exact absurd h (by decide)) _ rfl
      obtain ⟨ysl, ha, hy⟩ := hL.puts [19, 20, 21, 22, 23, 24, 25, 26, 27, 28, 29, 30, 31, 32, 33, 34, 35, 36, 37, 38, 39, 40, 41, 42, 43, 44, 45, 46, 2] (by kernel_rfl)
      have e21 : ysl 40 = _ := (hy 40).symm.trans d21
      clear hdep hL hy d21
      simp only [List.foldl, List.setIfInBounds_toArray, List.set_cons_succ, List.set_cons_zero, e21] at ha
      subst ha
      clear e21
      refine wpOp_step rfl (fun K hK => ?_)
      go_simp
      exact hK _ _ ⟨_, rfl, (fun h => by cases h), rfl, .inl (Below.refl _ _)⟩
    · cases ho
      intro act u hF hL hdep
      have d22 := hdep { on := 22, ground := .guard } (by simp) rfl (fun p hp h => by simp at hp; try subst hp; first | rfl | exact absurd h (by decide)) _ rfl
      obtain ⟨ysl, ha, hy⟩ := hL.puts [19, 20, 21, 22, 23, 24, 25, 26, 27, 28, 29, 30, 31, 32, 33, 34, 35, 36, 37, 38, 39, 40, 41, 42, 43, 44, 45, 46, 2] (by kernel_rfl)
      have e22 : ysl 41 = _ := (hy 41).symm.trans d22
      clear hdep hL hy d22
      simp only [List.foldl, List.setIfInBounds_toArray, List.set_cons_succ, List.set_cons_zero, e22] at ha
      subst ha
      clear e22
      refine wpOp_step rfl (fun K hK => ?_)
      go_simp
      exact hK _ _ ⟨_, rfl, (fun h => by cases h), rfl, .inl (Below.refl _ _)⟩
    · cases ho
      intro act u hF hL hdep
      have d22 := hdep { on := 22, ground := .guard } (by simp) rfl (fun p hp h => by simp at hp; try subst hp; first | rfl | exact absurd h (by decide)) _ rfl
      have d23 := hdep { on := 23, ground := .data } (by simp) rfl (fun p hp h => by simp at hp; try subst hp; first | rfl | exact absurd h (by decide)) _ rfl
      obtain ⟨ysl, ha, hy⟩ := hL.puts [19, 20, 21, 22, 23, 24, 25, 26, 27, 28, 29, 30, 31, 32, 33, 34, 35, 36, 37, 38, 39, 40, 41, 42, 43, 44, 45, 46, 2] (by kernel_rfl)
      have e22 : ysl 41 = _ := (hy 41).symm.trans d22
      have e23 : ysl 42 = _ := (hy 42).symm.trans d23
      clear hdep hL hy d22 d23
      simp only [List.foldl, List.setIfInBounds_toArray, List.set_cons_succ, List.set_cons_zero, e22, e23] at ha
      subst ha
      clear e22 e23
      obtain ⟨_, c0, c1, c2, c3, _, _, _, _⟩ := HB.out.fr hF
      refine wpOp_step rfl (fun K hK => ?_)
      go_simp
      exact hK _ _ ⟨_, rfl, (fun h => by cases h), rfl, .inl (Below.refl _ _)⟩
    · cases ho
      intro act u hF hL hdep
      have d22 := hdep { on := 22, ground := .guard } (by simp) rfl (fun p hp h => by simp at hp; try subst hp; first | rfl | exact absurd h (by decide)) _ rfl
      have d24 := hdep { on := 24, ground := .data } (by simp) rfl (fun p hp h => by simp at hp; try subst hp; first | rfl | exact absurd h (by decide)) _ rfl
      obtain ⟨ysl, ha, hy⟩ := hL.puts [19, 20, 21, 22, 23, 24, 25, 26, 27, 28, 29, 30, 31, 32, 33, 34, 35, 36, 37, 38, 39, 40, 41, 42, 43, 44, 45, 46, 2] (by kernel_rfl)
      have e22 : ysl 41 = _ := (hy 41).symm.trans d22
      have e24 : ysl 43 = _ := (hy 43).symm.trans d24
      clear hdep hL hy d22 d24
      simp only [List.foldl, List.setIfInBounds_toArray, List.set_cons_succ, List.set_cons_zero, e22, e24] at ha
      subst ha
      clear e22 e24
      have hl0 : 0 < H.length := by have := HLH.out; omega
      refine wpOp_step rfl (fun K hK => ?_)
      go_simp
      exact hK _ _ ⟨_, rfl, (fun h => by cases h), rfl, .inl (Below.refl _ _)⟩
    · cases ho
      intro act u hF hL hdep
      have d22 := hdep { on := 22, ground := .guard } (by simp) rfl (fun p hp h => by simp at hp; try subst hp; first | rfl | exact absurd h (by decide)) _ rfl
      have d25 := hdep { on := 25, ground := .data } (by simp) rfl (fun p hp h => by simp at hp; try subst hp; first | rfl | exact absurd h (by decide)) _ rfl
      obtain ⟨ysl, ha, hy⟩ := hL.puts [19, 20, 21, 22, 23, 24, 25, 26, 27, 28, 29, 30, 31, 32, 33, 34, 35, 36, 37, 38, 39, 40, 41, 42, 43, 44, 45, 46, 2] (by kernel_rfl)
      have e22 : ysl 41 = _ := (hy 41).symm.trans d22
      have e25 : ysl 44 = _ := (hy 44).symm.trans d25
      clear hdep hL hy d22 d25
      simp only [List.foldl, List.setIfInBounds_toArray, List.set_cons_succ, List.set_cons_zero, e22, e25] at ha
      subst ha
      clear e22 e25
      have d0 := KH0.out u hF
      refine wpOp_step rfl (fun K hK => ?_)
      go_simp
      exact hK _ _ ⟨_, rfl, (fun h => by cases h), rfl, .inl (Below.refl _ _)⟩
    · cases ho
      intro act u hF hL hdep
      have d22 := hdep { on := 22, ground := .data } (by simp) rfl (fun p hp h => by simp at hp; try subst hp; first | rfl | exact absurd h (by decide)) _ rfl
      have d26 := hdep { on := 26, ground := .data } (by simp) rfl (fun p hp h => by simp at hp; try subst hp; first | rfl | exact absurd h (by decide)) _ rfl
      obtain ⟨ysl, ha, hy⟩ := hL.puts [19, 20, 21, 22, 23, 24, 25, 26, 27, 28, 29, 30, 31, 32, 33, 34, 35, 36, 37, 38, 39, 40, 41, 42, 43, 44, 45, 46, 2] (by kernel_rfl)
      have e22 : ysl 41 = _ := (hy 41).symm.trans d22
      have e26 : ysl 45 = _ := (hy 45).symm.trans d26
      clear hdep hL hy d22 d26
      simp only [List.foldl, List.setIfInBounds_toArray, List.set_cons_succ, List.set_cons_zero, e22, e26] at ha
      subst ha
      clear e22 e26
      refine wpOp_step rfl (fun K hK => ?_)
      go_simp
      exact hK _ _ ⟨_, rfl, (fun h => by cases h), rfl, .inl (Below.refl _ _)⟩
    · cases ho
      intro act u hF hL hdep
      have d27 := hdep { on := 27, ground := .data } (by simp) rfl (fun p hp h => by simp at hp; try subst hp; first | rfl | exact absurd h (by decide)) _ rfl
      obtain ⟨ysl, ha, hy⟩ := hL.puts [19, 20, 21, 22, 23, 24, 25, 26, 27, 28, 29, 30, 31, 32, 33, 34, 35, 36, 37, 38, 39, 40, 41, 42, 43, 44, 45, 46, 2] (by kernel_rfl)
      have e27 : ysl 46 = _ := (hy 46).symm.trans d27
      clear hdep hL hy d27
      simp only [List.foldl, List.setIfInBounds_toArray, List.set_cons_succ, List.set_cons_zero, e27] at ha
      subst ha
      clear e27
      refine wpOp_step rfl (fun K hK => ?_)
      go_simp
      exact hK _ _ ⟨_, rfl, (fun h => by cases h), rfl, .inl (Below.refl _ _)⟩
    · exact absurd ho (by simp)
  case fin =>
    intro act u hF hL hsf
    have d28 := hsf 28 _ rfl (fun p hp => by simp at hp; try subst hp; decide)
    obtain ⟨ysl, ha, hy⟩ := hL.puts [19, 20, 21, 22, 23, 24, 25, 26, 27, 28, 29, 30, 31, 32, 33, 34, 35, 36, 37, 38, 39, 40, 41, 42, 43, 44, 45, 46, 2] (by kernel_rfl)
    have e28 : ysl 2 = _ := (hy 2).symm.trans d28
    clear hL hsf hy d28
    simp only [List.foldl, List.setIfInBounds_toArray, List.set_cons_succ, List.set_cons_zero, e28] at ha
    subst ha
    clear e28
    have HFu := Lib.hid (Fr.trans HF1.out hF)
    clear hF
    go_wp2_with fail
    go_ret
    exact ⟨rfl, HFu.out⟩
theorem spec_NamOk (x : Nm) (aM aF aV aH : Option Addr) (cM cF cV cH : Nat) (w : World) (h : SrcN w x aM aF aV aH) (hf : Few6 x) :
    Calls Try.prog 24 #[.agg #[.slice aM x.M.length cM, .slice aF x.F.length cF, .slice aV x.V.length cV, .slice aH x.H.length cH]] w fun e w' => e = .returned (.bool (okN x)) ∧ Fr w w' := by
  obtain ⟨M, F, V, H⟩ := x
  simp only
  by_cases h1 : M.length = 8
  · by_cases h2 : H.length = 20
    · cases h3 : wordsB V 20
      · rw [show okN ⟨M, F, V, H⟩ = false by simp [okN, h3]]
        exact spec_NamOk_n3 M F V H aM aF aV aH cM cF cV cH w h hf h1 h2 h3
      · cases h4 : apB (M ++ F)
        · rw [show okN ⟨M, F, V, H⟩ = false by simp [okN, h4]]
          exact spec_NamOk_a M F V H aM aF aV aH cM cF cV cH w h hf h1 h2 h3 h4
        · by_cases h5 : M.getD 0 0 = 0
          · by_cases h6 : V.getD 0 0 = 0
            · rw [show okN ⟨M, F, V, H⟩ = H.getD 0 false by show (decide (M.length = 8) && (decide (H.length = 20) && (wordsB V 20 && (decide (M.getD 0 0 = 0) && (decide (V.getD 0 0 = 0) && (H.getD 0 false && apB (M ++ F))))))) = _; rw [decide_eq_true h1, decide_eq_true h2, h3, decide_eq_true h5, decide_eq_true h6, h4]; simp only [Bool.true_and, Bool.and_true]]
              exact spec_NamOk_h M F V H aM aF aV aH cM cF cV cH w h hf h1 h2 h3 h4 h5 h6
            · rw [show okN ⟨M, F, V, H⟩ = false by show (decide (M.length = 8) && (decide (H.length = 20) && (wordsB V 20 && (decide (M.getD 0 0 = 0) && (decide (V.getD 0 0 = 0) && (H.getD 0 false && apB (M ++ F))))))) = _; rw [decide_eq_false h6]; simp only [Bool.false_and, Bool.and_false]]
              exact spec_NamOk_v M F V H aM aF aV aH cM cF cV cH w h hf h1 h2 h3 h4 h5 (by simpa using h6)
          · rw [show okN ⟨M, F, V, H⟩ = false by show (decide (M.length = 8) && (decide (H.length = 20) && (wordsB V 20 && (decide (M.getD 0 0 = 0) && (decide (V.getD 0 0 = 0) && (H.getD 0 false && apB (M ++ F))))))) = _; rw [decide_eq_false h5]; simp only [Bool.false_and, Bool.and_false]]
            exact spec_NamOk_m M F V H aM aF aV aH cM cF cV cH w h hf h1 h2 h3 h4 (by simpa using h5)
    · rw [show okN ⟨M, F, V, H⟩ = false by simp [okN, h2]]
      exact spec_NamOk_n2 M F V H aM aF aV aH cM cF cV cH w h hf h1 h2
  · rw [show okN ⟨M, F, V, H⟩ = false by simp [okN, h1]]
    exact spec_NamOk_n1 M F V H aM aF aV aH cM cF cV cH w h hf h1

end Go.Proofs.Ytddllgjieccikaa
