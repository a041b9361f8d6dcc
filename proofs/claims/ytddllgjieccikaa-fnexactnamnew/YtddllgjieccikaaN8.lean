/- The program's places, out of arrays; what is taken, put, undone in them. -/
import Derived.Test.YtddllgjieccikaaN7
import Derived.Test.YtddllgjieccikaaPl4
namespace Go.Proofs.Ytddllgjieccikaa
open Go.RowKit
set_option linter.unusedVariables false
set_option linter.unusedSimpArgs false
theorem Nb.srcM {u : World} {g : Nat} {M P : List Int} {f m : Nat} {V : List Int} {H : List Bool} (h : Nb u g M P f m V H) : Src u M.length (ivl M) (some ⟨g, 0, none⟩) := fun _ => ⟨g, 0, rfl, h.lt, fun i hi => by rw [Nat.zero_add]; exact h.cM i (by rw [h.Ml] at hi; exact hi)⟩
theorem Nb.srcV {u : World} {g : Nat} {M P : List Int} {f m : Nat} {V : List Int} {H : List Bool} (h : Nb u g M P f m V H) : Src u V.length (ivl V) (some ⟨g, 22, none⟩) := fun _ => ⟨g, 22, rfl, h.lt, fun i hi => h.cV i (by rw [h.Vl] at hi; exact hi)⟩
theorem Nb.srcH {u : World} {g : Nat} {M P : List Int} {f m : Nat} {V : List Int} {H : List Bool} (h : Nb u g M P f m V H) : Src u H.length (bvl H) (some ⟨g, 42, none⟩) := fun _ => ⟨g, 42, rfl, h.lt, fun i hi => h.cH i (by rw [h.Hl] at hi; exact hi)⟩
set_option maxRecDepth 8000 in
set_option maxHeartbeats 4000000 in
theorem impl_state (M P : List Int) (f m : Nat) (V : List Int) (H : List Bool) (g : Nat) (w : World) (h : Nb w g M P f m V H) :
    Calls Try.prog 50 #[.pointer (some ⟨g, 0, none⟩)] w (NmP ⟨M, ringL P f m, V, H⟩ w) := by
  have HF := Lib.hid (Fr.alloc w (.cells #[.slice none 0 0, .slice none 0 0, .slice none 0 0, .slice none 0 0] 25))
  have HZ := Lib.hid (Box4.new w (.slice none 0 0) (.slice none 0 0) (.slice none 0 0) (.slice none 0 0) 25 _ rfl)
  have HUS := Lib.hid (show (w.alloc (.cells #[.slice none 0 0, .slice none 0 0, .slice none 0 0, .slice none 0 0] 25)).heap.size = w.heap.size + 1 by simp)
  have HN := Lib.hid (h.fr HF.out)
  have HRL := Lib.hid (ringL_len P f m)
  have HCM := Lib.hid (fun (u : World) (hB : But [] (w.alloc (.cells #[.slice none 0 0, .slice none 0 0, .slice none 0 0, .slice none 0 0] 25)) u) => slices_Clone M (some ⟨g, 0, none⟩) 8 u (HN.out.but hB (by simp)).srcM (by rw [HN.out.Ml]; omega) (by rw [HN.out.Ml]; omega))
  have HCV := Lib.hid (fun (u : World) (hB : But [] (w.alloc (.cells #[.slice none 0 0, .slice none 0 0, .slice none 0 0, .slice none 0 0] 25)) u) => slices_Clone V (some ⟨g, 22, none⟩) 20 u (HN.out.but hB (by simp)).srcV (by rw [HN.out.Vl]; omega) (by rw [HN.out.Vl]; omega))
  have HCH := Lib.hid (fun (u : World) (hB : But [] (w.alloc (.cells #[.slice none 0 0, .slice none 0 0, .slice none 0 0, .slice none 0 0] 25)) u) => slices_CloneB H (some ⟨g, 42, none⟩) 20 u (HN.out.but hB (by simp)).srcH (by rw [HN.out.Hl]; omega) (by rw [HN.out.Hl]; omega))
  have HCL := Lib.hid (fun (u : World) (hB : But [] (w.alloc (.cells #[.slice none 0 0, .slice none 0 0, .slice none 0 0, .slice none 0 0] 25)) u) => impl_list M P f m V H g u (HN.out.but hB (by simp)))
  have e8 := h.Ml
  have e20 := h.Vl
  have e21 := h.Hl
  rw [show Value.slice (some ⟨g, 0, none⟩) M.length 8 = .slice (some ⟨g, 0, none⟩) 8 8 by rw [e8]] at HCM
  rw [show Value.slice (some ⟨g, 22, none⟩) V.length 20 = .slice (some ⟨g, 22, none⟩) 20 20 by rw [e20]] at HCV
  rw [show Value.slice (some ⟨g, 42, none⟩) H.length 20 = .slice (some ⟨g, 42, none⟩) 20 20 by rw [e21]] at HCH
  obtain ⟨R, hR⟩ : ∃ R, ringL P f m = R := ⟨_, rfl⟩
  rw [hR] at HCL HRL ⊢
  clear h e8 e20 e21 hR
  go_enter Try.func50, Try.ntmps50
  go_wp2_with fail
  generalize (w.alloc (.cells #[.slice none 0 0, .slice none 0 0, .slice none 0 0, .slice none 0 0] 25)) = u0 at *
  refine wp_region_rows 23 20 [] (fun _ => []) lb0_in (fun i => i == 4 || i == 8 || i == 13 || i == 18) (fun i v u => match i with | 0 => v = .pointer (some ⟨g, 0, none⟩) | 1 => v = .pointer (some ⟨g, 0, none⟩) | 2 => v = .pointer (some ⟨g, 0, none⟩) | 3 => v = .slice (some ⟨g, 0, none⟩) 8 8 | 4 => ∃ g4 c4, v = .slice (some ⟨g4, 0, none⟩) M.length c4 ∧ u0.heap.size ≤ g4 ∧ Ro u g4 M | 5 => v = .pointer (some ⟨g, 0, none⟩) | 6 => v = .pointer (some ⟨g, 0, none⟩) | 7 => v = .pointer (some ⟨g, 8, none⟩) | 8 => ∃ g8, v = .slice (some ⟨g8, 0, none⟩) m m ∧ u0.heap.size ≤ g8 ∧ Ro u g8 R | 9 => v = .pointer (some ⟨g, 0, none⟩) | 10 => v = .pointer (some ⟨g, 0, none⟩) | 11 => v = .pointer (some ⟨g, 22, none⟩) | 12 => v = .slice (some ⟨g, 22, none⟩) 20 20 | 13 => ∃ g13 c13, v = .slice (some ⟨g13, 0, none⟩) V.length c13 ∧ u0.heap.size ≤ g13 ∧ Ro u g13 V | 14 => v = .pointer (some ⟨g, 0, none⟩) | 15 => v = .pointer (some ⟨g, 0, none⟩) | 16 => v = .pointer (some ⟨g, 42, none⟩) | 17 => v = .slice (some ⟨g, 42, none⟩) 20 20 | 18 => ∃ g18 c18, v = .slice (some ⟨g18, 0, none⟩) H.length c18 ∧ u0.heap.size ≤ g18 ∧ RoB u g18 H | 19 => ∃ g4 c4 g8 g13 c13 g18 c18, v = .agg #[.slice (some ⟨g4, 0, none⟩) M.length c4, .slice (some ⟨g8, 0, none⟩) m m, .slice (some ⟨g13, 0, none⟩) V.length c13, .slice (some ⟨g18, 0, none⟩) H.length c18] ∧ u0.heap.size ≤ g4 ∧ u0.heap.size ≤ g8 ∧ u0.heap.size ≤ g13 ∧ u0.heap.size ≤ g18 ∧ Own6 u g4 g8 g13 g18 ⟨M, R, V, H⟩ | _ => True) ?mono (by kernel_rfl) (by kernel_rfl) rfl (by kernel_rfl) (by kernel_rfl) (by decide) ?step ?fin
  case mono =>
    intro i j v u u' hi hij hdj hsz h hB
    rcases j with _ | _ | _ | _ | _ | _ | _ | _ | _ | _ | _ | _ | _ | _ | _ | _ | _ | _ | _ | _ | j
    · exact h
    · exact h
    · exact h
    · exact h
    · obtain ⟨x, c, e, hb, r⟩ := h
      exact ⟨x, c, e, hb, r.but hB (by simp)⟩
    · exact h
    · exact h
    · exact h
    · obtain ⟨x, e, hb, r⟩ := h
      exact ⟨x, e, hb, r.but hB (by simp)⟩
    · exact h
    · exact h
    · exact h
    · exact h
    · obtain ⟨x, c, e, hb, r⟩ := h
      exact ⟨x, c, e, hb, r.but hB (by simp)⟩
    · exact h
    · exact h
    · exact h
    · exact h
    · obtain ⟨x, c, e, hb, r⟩ := h
      exact ⟨x, c, e, hb, r.but hB (by simp)⟩
    · obtain ⟨g4, c4, g8, g13, c13, g18, c18, e, b1, b2, b3, b4, o⟩ := h
      exact ⟨g4, c4, g8, g13, c13, g18, c18, e, b1, b2, b3, b4, ⟨o.M.but hB (by simp), o.F.but hB (by simp), o.V.but hB (by simp), o.H.but hB (by simp), o.a12, o.a13, o.a14, o.a23, o.a24, o.a34⟩⟩
    · trivial
  case step =>
    intro i o ho hiz
    rcases i with _ | _ | _ | _ | _ | _ | _ | _ | _ | _ | _ | _ | _ | _ | _ | _ | _ | _ | _ | _ | _ | i
    · clear hiz
      cases ho
      intro act u hB hL hdep hap hnw
      replace hB := hB [] (fun j _ k hk => lb0_in j k hk)
      obtain ⟨ysl, ha, hy⟩ := hL.puts [3, 4, 5, 6, 7, 8, 9, 10, 11, 12, 13, 14, 15, 16, 17, 18, 19, 20, 21, 22] (by kernel_rfl)
      clear hdep hL hy hap hnw
      simp only [List.foldl, List.setIfInBounds_toArray, List.set_cons_succ, List.set_cons_zero] at ha
      subst ha
      refine wpOp_step rfl (fun K hK => ?_)
      go_simp
      exact hK _ _ ⟨_, rfl, (fun h => by cases h), rfl, But.refl _ _, (fun h => by cases h)⟩
    · clear hiz
      cases ho
      intro act u hB hL hdep hap hnw
      replace hB := hB [] (fun j _ k hk => lb0_in j k hk)
      have d0 := hdep { on := 0, ground := .data } (by simp) rfl _ rfl
      obtain ⟨ysl, ha, hy⟩ := hL.puts [3, 4, 5, 6, 7, 8, 9, 10, 11, 12, 13, 14, 15, 16, 17, 18, 19, 20, 21, 22] (by kernel_rfl)
      have e0 : ysl 3 = _ := (hy 3).symm.trans d0
      clear hdep hL hy hap hnw d0
      simp only [List.foldl, List.setIfInBounds_toArray, List.set_cons_succ, List.set_cons_zero, e0] at ha
      subst ha
      clear e0
      refine wpOp_step rfl (fun K hK => ?_)
      go_simp
      exact hK _ _ ⟨_, rfl, (fun h => by cases h), rfl, But.refl _ _, (fun h => by cases h)⟩
    · clear hiz
      cases ho
      intro act u hB hL hdep hap hnw
      replace hB := hB [] (fun j _ k hk => lb0_in j k hk)
      have d1 := hdep { on := 1, ground := .data } (by simp) rfl _ rfl
      obtain ⟨ysl, ha, hy⟩ := hL.puts [3, 4, 5, 6, 7, 8, 9, 10, 11, 12, 13, 14, 15, 16, 17, 18, 19, 20, 21, 22] (by kernel_rfl)
      have e1 : ysl 4 = _ := (hy 4).symm.trans d1
      clear hdep hL hy hap hnw d1
      simp only [List.foldl, List.setIfInBounds_toArray, List.set_cons_succ, List.set_cons_zero, e1] at ha
      subst ha
      clear e1
      refine wpOp_step rfl (fun K hK => ?_)
      go_simp
      exact hK _ _ ⟨_, rfl, (fun h => by cases h), rfl, But.refl _ _, (fun h => by cases h)⟩
    · clear hiz
      cases ho
      intro act u hB hL hdep hap hnw
      replace hB := hB [] (fun j _ k hk => lb0_in j k hk)
      have d2 := hdep { on := 2, ground := .data } (by simp) rfl _ rfl
      obtain ⟨ysl, ha, hy⟩ := hL.puts [3, 4, 5, 6, 7, 8, 9, 10, 11, 12, 13, 14, 15, 16, 17, 18, 19, 20, 21, 22] (by kernel_rfl)
      have e2 : ysl 5 = _ := (hy 5).symm.trans d2
      clear hdep hL hy hap hnw d2
      simp only [List.foldl, List.setIfInBounds_toArray, List.set_cons_succ, List.set_cons_zero, e2] at ha
      subst ha
      clear e2
      refine wpOp_step rfl (fun K hK => ?_)
      go_simp
      exact hK _ _ ⟨_, rfl, (fun h => by cases h), rfl, But.refl _ _, (fun h => by cases h)⟩
    · clear hiz
      cases ho
      intro act u hB hL hdep hap hnw
      replace hB := hB [] (fun j _ k hk => lb0_in j k hk)
      have d3 := hdep { on := 3, ground := .data } (by simp) rfl _ rfl
      obtain ⟨ysl, ha, hy⟩ := hL.puts [3, 4, 5, 6, 7, 8, 9, 10, 11, 12, 13, 14, 15, 16, 17, 18, 19, 20, 21, 22] (by kernel_rfl)
      have e3 : ysl 6 = _ := (hy 6).symm.trans d3
      clear hdep hL hy hap hnw d3
      simp only [List.foldl, List.setIfInBounds_toArray, List.set_cons_succ, List.set_cons_zero, e3] at ha
      subst ha
      clear e3
      refine wpOp_step rfl (fun K hK => ?_)
      go_simp
      refine (HCM.out u hB).mono ?_
      rintro e u' ⟨x, c, rfl, hx, r, f⟩
      go_simp
      exact hK _ _ ⟨_, rfl, (fun h => by cases h), ⟨x, c, rfl, Nat.le_trans hB.size hx, r⟩, But.of f, (fun _ p hp => by cases hp; exact ⟨hx, r.lt⟩)⟩
    · clear hiz
      cases ho
      intro act u hB hL hdep hap hnw
      replace hB := hB [] (fun j _ k hk => lb0_in j k hk)
      obtain ⟨ysl, ha, hy⟩ := hL.puts [3, 4, 5, 6, 7, 8, 9, 10, 11, 12, 13, 14, 15, 16, 17, 18, 19, 20, 21, 22] (by kernel_rfl)
      clear hdep hL hy hap hnw
      simp only [List.foldl, List.setIfInBounds_toArray, List.set_cons_succ, List.set_cons_zero] at ha
      subst ha
      refine wpOp_step rfl (fun K hK => ?_)
      go_simp
      exact hK _ _ ⟨_, rfl, (fun h => by cases h), rfl, But.refl _ _, (fun h => by cases h)⟩
    · clear hiz
      cases ho
      intro act u hB hL hdep hap hnw
      replace hB := hB [] (fun j _ k hk => lb0_in j k hk)
      have d5 := hdep { on := 5, ground := .data } (by simp) rfl _ rfl
      obtain ⟨ysl, ha, hy⟩ := hL.puts [3, 4, 5, 6, 7, 8, 9, 10, 11, 12, 13, 14, 15, 16, 17, 18, 19, 20, 21, 22] (by kernel_rfl)
      have e5 : ysl 8 = _ := (hy 8).symm.trans d5
      clear hdep hL hy hap hnw d5
      simp only [List.foldl, List.setIfInBounds_toArray, List.set_cons_succ, List.set_cons_zero, e5] at ha
      subst ha
      clear e5
      refine wpOp_step rfl (fun K hK => ?_)
      go_simp
      exact hK _ _ ⟨_, rfl, (fun h => by cases h), rfl, But.refl _ _, (fun h => by cases h)⟩
    · clear hiz
      cases ho
      intro act u hB hL hdep hap hnw
      replace hB := hB [] (fun j _ k hk => lb0_in j k hk)
      have d6 := hdep { on := 6, ground := .data } (by simp) rfl _ rfl
      obtain ⟨ysl, ha, hy⟩ := hL.puts [3, 4, 5, 6, 7, 8, 9, 10, 11, 12, 13, 14, 15, 16, 17, 18, 19, 20, 21, 22] (by kernel_rfl)
      have e6 : ysl 9 = _ := (hy 9).symm.trans d6
      clear hdep hL hy hap hnw d6
      simp only [List.foldl, List.setIfInBounds_toArray, List.set_cons_succ, List.set_cons_zero, e6] at ha
      subst ha
      clear e6
      refine wpOp_step rfl (fun K hK => ?_)
      go_simp
      exact hK _ _ ⟨_, rfl, (fun h => by cases h), rfl, But.refl _ _, (fun h => by cases h)⟩
    · clear hiz
      cases ho
      intro act u hB hL hdep hap hnw
      replace hB := hB [] (fun j _ k hk => lb0_in j k hk)
      have d7 := hdep { on := 7, ground := .data } (by simp) rfl _ rfl
      obtain ⟨ysl, ha, hy⟩ := hL.puts [3, 4, 5, 6, 7, 8, 9, 10, 11, 12, 13, 14, 15, 16, 17, 18, 19, 20, 21, 22] (by kernel_rfl)
      have e7 : ysl 10 = _ := (hy 10).symm.trans d7
      clear hdep hL hy hap hnw d7
      simp only [List.foldl, List.setIfInBounds_toArray, List.set_cons_succ, List.set_cons_zero, e7] at ha
      subst ha
      clear e7
      refine wpOp_step rfl (fun K hK => ?_)
      go_simp
      refine (HCL.out u hB).mono ?_
      rintro e u' ⟨x, rfl, hx, hl, r, f⟩
      go_simp
      exact hK _ _ ⟨_, rfl, (fun h => by cases h), ⟨x, rfl, Nat.le_trans hB.size hx, r⟩, But.of f, (fun _ p hp => by cases hp; exact ⟨hx, hl⟩)⟩
    · clear hiz
      cases ho
      intro act u hB hL hdep hap hnw
      replace hB := hB [] (fun j _ k hk => lb0_in j k hk)
      obtain ⟨ysl, ha, hy⟩ := hL.puts [3, 4, 5, 6, 7, 8, 9, 10, 11, 12, 13, 14, 15, 16, 17, 18, 19, 20, 21, 22] (by kernel_rfl)
      clear hdep hL hy hap hnw
      simp only [List.foldl, List.setIfInBounds_toArray, List.set_cons_succ, List.set_cons_zero] at ha
      subst ha
      refine wpOp_step rfl (fun K hK => ?_)
      go_simp
      exact hK _ _ ⟨_, rfl, (fun h => by cases h), rfl, But.refl _ _, (fun h => by cases h)⟩
    · clear hiz
      cases ho
      intro act u hB hL hdep hap hnw
      replace hB := hB [] (fun j _ k hk => lb0_in j k hk)
      have d9 := hdep { on := 9, ground := .data } (by simp) rfl _ rfl
      obtain ⟨ysl, ha, hy⟩ := hL.puts [3, 4, 5, 6, 7, 8, 9, 10, 11, 12, 13, 14, 15, 16, 17, 18, 19, 20, 21, 22] (by kernel_rfl)
      have e9 : ysl 12 = _ := (hy 12).symm.trans d9
      clear hdep hL hy hap hnw d9
      simp only [List.foldl, List.setIfInBounds_toArray, List.set_cons_succ, List.set_cons_zero, e9] at ha
      subst ha
      clear e9
      refine wpOp_step rfl (fun K hK => ?_)
      go_simp
      exact hK _ _ ⟨_, rfl, (fun h => by cases h), rfl, But.refl _ _, (fun h => by cases h)⟩
    · clear hiz
      cases ho
      intro act u hB hL hdep hap hnw
      replace hB := hB [] (fun j _ k hk => lb0_in j k hk)
      have d10 := hdep { on := 10, ground := .data } (by simp) rfl _ rfl
      obtain ⟨ysl, ha, hy⟩ := hL.puts [3, 4, 5, 6, 7, 8, 9, 10, 11, 12, 13, 14, 15, 16, 17, 18, 19, 20, 21, 22] (by kernel_rfl)
      have e10 : ysl 13 = _ := (hy 13).symm.trans d10
      clear hdep hL hy hap hnw d10
      simp only [List.foldl, List.setIfInBounds_toArray, List.set_cons_succ, List.set_cons_zero, e10] at ha
      subst ha
      clear e10
      refine wpOp_step rfl (fun K hK => ?_)
      go_simp
      exact hK _ _ ⟨_, rfl, (fun h => by cases h), rfl, But.refl _ _, (fun h => by cases h)⟩
    · clear hiz
      cases ho
      intro act u hB hL hdep hap hnw
      replace hB := hB [] (fun j _ k hk => lb0_in j k hk)
      have d11 := hdep { on := 11, ground := .data } (by simp) rfl _ rfl
      obtain ⟨ysl, ha, hy⟩ := hL.puts [3, 4, 5, 6, 7, 8, 9, 10, 11, 12, 13, 14, 15, 16, 17, 18, 19, 20, 21, 22] (by kernel_rfl)
      have e11 : ysl 14 = _ := (hy 14).symm.trans d11
      clear hdep hL hy hap hnw d11
      simp only [List.foldl, List.setIfInBounds_toArray, List.set_cons_succ, List.set_cons_zero, e11] at ha
      subst ha
      clear e11
      refine wpOp_step rfl (fun K hK => ?_)
      go_simp
      exact hK _ _ ⟨_, rfl, (fun h => by cases h), rfl, But.refl _ _, (fun h => by cases h)⟩
    · clear hiz
      cases ho
      intro act u hB hL hdep hap hnw
      replace hB := hB [] (fun j _ k hk => lb0_in j k hk)
      have d12 := hdep { on := 12, ground := .data } (by simp) rfl _ rfl
      obtain ⟨ysl, ha, hy⟩ := hL.puts [3, 4, 5, 6, 7, 8, 9, 10, 11, 12, 13, 14, 15, 16, 17, 18, 19, 20, 21, 22] (by kernel_rfl)
      have e12 : ysl 15 = _ := (hy 15).symm.trans d12
      clear hdep hL hy hap hnw d12
      simp only [List.foldl, List.setIfInBounds_toArray, List.set_cons_succ, List.set_cons_zero, e12] at ha
      subst ha
      clear e12
      refine wpOp_step rfl (fun K hK => ?_)
      go_simp
      refine (HCV.out u hB).mono ?_
      rintro e u' ⟨x, c, rfl, hx, r, f⟩
      go_simp
      exact hK _ _ ⟨_, rfl, (fun h => by cases h), ⟨x, c, rfl, Nat.le_trans hB.size hx, r⟩, But.of f, (fun _ p hp => by cases hp; exact ⟨hx, r.lt⟩)⟩
    · clear hiz
      cases ho
      intro act u hB hL hdep hap hnw
      replace hB := hB [] (fun j _ k hk => lb0_in j k hk)
      obtain ⟨ysl, ha, hy⟩ := hL.puts [3, 4, 5, 6, 7, 8, 9, 10, 11, 12, 13, 14, 15, 16, 17, 18, 19, 20, 21, 22] (by kernel_rfl)
      clear hdep hL hy hap hnw
      simp only [List.foldl, List.setIfInBounds_toArray, List.set_cons_succ, List.set_cons_zero] at ha
      subst ha
      refine wpOp_step rfl (fun K hK => ?_)
      go_simp
      exact hK _ _ ⟨_, rfl, (fun h => by cases h), rfl, But.refl _ _, (fun h => by cases h)⟩
    · clear hiz
      cases ho
      intro act u hB hL hdep hap hnw
      replace hB := hB [] (fun j _ k hk => lb0_in j k hk)
      have d14 := hdep { on := 14, ground := .data } (by simp) rfl _ rfl
      obtain ⟨ysl, ha, hy⟩ := hL.puts [3, 4, 5, 6, 7, 8, 9, 10, 11, 12, 13, 14, 15, 16, 17, 18, 19, 20, 21, 22] (by kernel_rfl)
      have e14 : ysl 17 = _ := (hy 17).symm.trans d14
      clear hdep hL hy hap hnw d14
      simp only [List.foldl, List.setIfInBounds_toArray, List.set_cons_succ, List.set_cons_zero, e14] at ha
      subst ha
      clear e14
      refine wpOp_step rfl (fun K hK => ?_)
      go_simp
      exact hK _ _ ⟨_, rfl, (fun h => by cases h), rfl, But.refl _ _, (fun h => by cases h)⟩
    · clear hiz
      cases ho
      intro act u hB hL hdep hap hnw
      replace hB := hB [] (fun j _ k hk => lb0_in j k hk)
      have d15 := hdep { on := 15, ground := .data } (by simp) rfl _ rfl
      obtain ⟨ysl, ha, hy⟩ := hL.puts [3, 4, 5, 6, 7, 8, 9, 10, 11, 12, 13, 14, 15, 16, 17, 18, 19, 20, 21, 22] (by kernel_rfl)
      have e15 : ysl 18 = _ := (hy 18).symm.trans d15
      clear hdep hL hy hap hnw d15
      simp only [List.foldl, List.setIfInBounds_toArray, List.set_cons_succ, List.set_cons_zero, e15] at ha
      subst ha
      clear e15
      refine wpOp_step rfl (fun K hK => ?_)
      go_simp
      exact hK _ _ ⟨_, rfl, (fun h => by cases h), rfl, But.refl _ _, (fun h => by cases h)⟩
    · clear hiz
      cases ho
      intro act u hB hL hdep hap hnw
      replace hB := hB [] (fun j _ k hk => lb0_in j k hk)
      have d16 := hdep { on := 16, ground := .data } (by simp) rfl _ rfl
      obtain ⟨ysl, ha, hy⟩ := hL.puts [3, 4, 5, 6, 7, 8, 9, 10, 11, 12, 13, 14, 15, 16, 17, 18, 19, 20, 21, 22] (by kernel_rfl)
      have e16 : ysl 19 = _ := (hy 19).symm.trans d16
      clear hdep hL hy hap hnw d16
      simp only [List.foldl, List.setIfInBounds_toArray, List.set_cons_succ, List.set_cons_zero, e16] at ha
      subst ha
      clear e16
      refine wpOp_step rfl (fun K hK => ?_)
      go_simp
      exact hK _ _ ⟨_, rfl, (fun h => by cases h), rfl, But.refl _ _, (fun h => by cases h)⟩
    · clear hiz
      cases ho
      intro act u hB hL hdep hap hnw
      replace hB := hB [] (fun j _ k hk => lb0_in j k hk)
      have d17 := hdep { on := 17, ground := .data } (by simp) rfl _ rfl
      obtain ⟨ysl, ha, hy⟩ := hL.puts [3, 4, 5, 6, 7, 8, 9, 10, 11, 12, 13, 14, 15, 16, 17, 18, 19, 20, 21, 22] (by kernel_rfl)
      have e17 : ysl 20 = _ := (hy 20).symm.trans d17
      clear hdep hL hy hap hnw d17
      simp only [List.foldl, List.setIfInBounds_toArray, List.set_cons_succ, List.set_cons_zero, e17] at ha
      subst ha
      clear e17
      refine wpOp_step rfl (fun K hK => ?_)
      go_simp
      refine (HCH.out u hB).mono ?_
      rintro e u' ⟨x, c, rfl, hx, r, f⟩
      go_simp
      exact hK _ _ ⟨_, rfl, (fun h => by cases h), ⟨x, c, rfl, Nat.le_trans hB.size hx, r⟩, But.of f, (fun _ p hp => by cases hp; exact ⟨hx, r.lt⟩)⟩
    · clear hiz
      cases ho
      intro act u hB hL hdep hap hnw
      replace hB := hB [] (fun j _ k hk => lb0_in j k hk)
      have d4 := hdep { on := 4, ground := .data } (by simp) rfl _ rfl
      have d8 := hdep { on := 8, ground := .data } (by simp) rfl _ rfl
      have d13 := hdep { on := 13, ground := .data } (by simp) rfl _ rfl
      have d18 := hdep { on := 18, ground := .data } (by simp) rfl _ rfl
      obtain ⟨ysl, ha, hy⟩ := hL.puts [3, 4, 5, 6, 7, 8, 9, 10, 11, 12, 13, 14, 15, 16, 17, 18, 19, 20, 21, 22] (by kernel_rfl)
      obtain ⟨g4, c4, h4, b4, r4⟩ := d4
      have e4 : ysl 7 = .slice (some ⟨g4, 0, none⟩) M.length c4 := (hy 7).symm.trans h4
      obtain ⟨g8, h8, b8, r8⟩ := d8
      have e8 : ysl 11 = .slice (some ⟨g8, 0, none⟩) m m := (hy 11).symm.trans h8
      obtain ⟨g13, c13, h13, b13, r13⟩ := d13
      have e13 : ysl 16 = .slice (some ⟨g13, 0, none⟩) V.length c13 := (hy 16).symm.trans h13
      obtain ⟨g18, c18, h18, b18, r18⟩ := d18
      have e18 : ysl 21 = .slice (some ⟨g18, 0, none⟩) H.length c18 := (hy 21).symm.trans h18
      have n48 := hap { on := 4, ground := .data } (by simp) { on := 8, ground := .data } (by simp) rfl rfl (by decide) rfl rfl _ _ rfl rfl g4 g8 (by rw [h4]; rfl) (by rw [h8]; rfl)
      have n413 := hap { on := 4, ground := .data } (by simp) { on := 13, ground := .data } (by simp) rfl rfl (by decide) rfl rfl _ _ rfl rfl g4 g13 (by rw [h4]; rfl) (by rw [h13]; rfl)
      have n418 := hap { on := 4, ground := .data } (by simp) { on := 18, ground := .data } (by simp) rfl rfl (by decide) rfl rfl _ _ rfl rfl g4 g18 (by rw [h4]; rfl) (by rw [h18]; rfl)
      have n813 := hap { on := 8, ground := .data } (by simp) { on := 13, ground := .data } (by simp) rfl rfl (by decide) rfl rfl _ _ rfl rfl g8 g13 (by rw [h8]; rfl) (by rw [h13]; rfl)
      have n818 := hap { on := 8, ground := .data } (by simp) { on := 18, ground := .data } (by simp) rfl rfl (by decide) rfl rfl _ _ rfl rfl g8 g18 (by rw [h8]; rfl) (by rw [h18]; rfl)
      have n1318 := hap { on := 13, ground := .data } (by simp) { on := 18, ground := .data } (by simp) rfl rfl (by decide) rfl rfl _ _ rfl rfl g13 g18 (by rw [h13]; rfl) (by rw [h18]; rfl)
      clear hdep hL hy hap hnw h4 h8 h13 h18
      simp only [List.foldl, List.setIfInBounds_toArray, List.set_cons_succ, List.set_cons_zero, e4, e8, e13, e18] at ha
      subst ha
      clear e4 e8 e13 e18
      refine wpOp_step rfl (fun K hK => ?_)
      go_simp
      exact hK _ _ ⟨_, rfl, (fun h => by cases h), ⟨g4, c4, g8, g13, c13, g18, c18, rfl, b4, b8, b13, b18, ⟨r4, r8, r13, r18, n48, n413, n418, n813, n818, n1318⟩⟩, But.refl _ _, (fun h => by cases h)⟩
    · exact absurd rfl hiz
    · exact absurd ho (by simp)
  case fin =>
    intro act u hB hL hsf hap hnw
    have d19 := hsf 19 _ rfl (by decide)
    obtain ⟨ysl, ha, hy⟩ := hL.puts [3, 4, 5, 6, 7, 8, 9, 10, 11, 12, 13, 14, 15, 16, 17, 18, 19, 20, 21, 22] (by kernel_rfl)
    obtain ⟨g4, c4, g8, g13, c13, g18, c18, h19, b4, b8, b13, b18, own⟩ := d19
    have e19 : ysl 22 = .agg #[.slice (some ⟨g4, 0, none⟩) M.length c4, .slice (some ⟨g8, 0, none⟩) m m, .slice (some ⟨g13, 0, none⟩) V.length c13, .slice (some ⟨g18, 0, none⟩) H.length c18] := (hy 22).symm.trans h19
    clear hL hsf hy hap hnw h19
    simp only [List.foldl, List.setIfInBounds_toArray, List.set_cons_succ, List.set_cons_zero, e19] at ha
    subst ha
    clear e19
    obtain ⟨_, z0, z1, z2, z3, zf0, zf1, zf2, zf3⟩ := HZ.out.but hB (by simp)
    refine wpOp_step rfl (fun K hK => ?_)
    go_simp
    refine hK _ _ ?_
    have Bn := (HZ.out.but hB (by simp)).set (.slice (some ⟨g4, 0, none⟩) M.length c4) (.slice (some ⟨g8, 0, none⟩) m m) (.slice (some ⟨g13, 0, none⟩) V.length c13) (.slice (some ⟨g18, 0, none⟩) H.length c18)
    have w0 := Bn.c0
    have w1 := Bn.c1
    have w2 := Bn.c2
    have w3 := Bn.c3
    have hst : But [w.heap.size] u ((((u.setCell ⟨w.heap.size, 0, none⟩ (.slice (some ⟨g4, 0, none⟩) M.length c4)).setCell ⟨w.heap.size, 1, none⟩ (.slice (some ⟨g8, 0, none⟩) m m)).setCell ⟨w.heap.size, 2, none⟩ (.slice (some ⟨g13, 0, none⟩) V.length c13)).setCell ⟨w.heap.size, 3, none⟩ (.slice (some ⟨g18, 0, none⟩) H.length c18)) := (But.refl _ _).set4 _ _ _ _ _ (.inl (by simp))
    have HFin := Lib.hid (show Fr w _ from fr_but (fr_but (L := []) HF.out hB (fun k hk => by cases hk)) hst (fun k hk => by have := List.mem_singleton.1 hk; omega))
    have hus := HUS.out
    have HO := Lib.hid (show Own6 _ g4 g8 g13 g18 ⟨M, R, V, H⟩ from ⟨own.M.but hst (by simp; omega), own.F.but hst (by simp; omega), own.V.but hst (by simp; omega), own.H.but hst (by simp; omega), own.a12, own.a13, own.a14, own.a23, own.a24, own.a34⟩)
    clear Bn z0 z1 z2 z3 zf0 zf1 zf2 zf3 hst own hB
    generalize ((((u.setCell ⟨w.heap.size, 0, none⟩ (.slice (some ⟨g4, 0, none⟩) M.length c4)).setCell ⟨w.heap.size, 1, none⟩ (.slice (some ⟨g8, 0, none⟩) m m)).setCell ⟨w.heap.size, 2, none⟩ (.slice (some ⟨g13, 0, none⟩) V.length c13)).setCell ⟨w.heap.size, 3, none⟩ (.slice (some ⟨g18, 0, none⟩) H.length c18)) = u9 at *
    go_wp2
    refine bodyPost_ret (v := .agg #[.slice (some ⟨g4, 0, none⟩) M.length c4, .slice (some ⟨g8, 0, none⟩) m m, .slice (some ⟨g13, 0, none⟩) V.length c13, .slice (some ⟨g18, 0, none⟩) H.length c18]) (by simp [results, Try.results50, go_sem, w0, w1, w2, w3]) rfl ?_
    exact ⟨_, _, _, _, c4, m, c13, c18, by rw [HRL.out], HO.out.vc (by omega) (by omega) (by omega) (by omega), HFin.out⟩

end Go.Proofs.Ytddllgjieccikaa
