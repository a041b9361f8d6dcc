/- Places copied, of the model. -/
import Derived.Test.YtddllgjieccikaaN8
namespace Go.Proofs.Ytddllgjieccikaa
open Go.RowKit
set_option linter.unusedVariables false
set_option linter.unusedSimpArgs false
/-- A copy of places that was handed over: four rows apart, of which the second may be none. -/
structure OwC (B : Nat) (u : World) (x : Nm) (g1 : Nat) (aF : Option Addr) (cF g3 g4 : Nat) : Prop where
  b1 : B ≤ g1
  b3 : B ≤ g3
  b4 : B ≤ g4
  M : Ro u g1 x.M
  F : Rc B u x.F aF cF
  V : Ro u g3 x.V
  H : RoB u g4 x.H
  a13 : g1 ≠ g3
  a14 : g1 ≠ g4
  a34 : g3 ≠ g4
  aF : ∀ g, aF = some ⟨g, 0, none⟩ → 0 < x.F.length → g1 ≠ g ∧ g3 ≠ g ∧ g4 ≠ g
theorem rc_bk {B : Nat} {u : World} {xs : List Int} {ao : Option Addr} {c k : Nat} (h : Rc B u xs ao c) (hk : k ∈ bkS xs.length ao) : ∃ g, ao = some ⟨g, 0, none⟩ ∧ 0 < xs.length ∧ k = g := by
  obtain ⟨h0, b, e, rfl⟩ := mem_bkS hk
  rcases h with ⟨h1, _⟩ | ⟨g, e2, _⟩
  · omega
  · rw [e] at e2
    cases e2
    exact ⟨g, e, h0, rfl⟩
theorem OwC.vc {B : Nat} {u : World} {x : Nm} {g1 : Nat} {aF : Option Addr} {cF g3 g4 : Nat} (h : OwC B u x g1 aF cF g3 g4) : VcNm B u x (some ⟨g1, 0, none⟩) aF (some ⟨g3, 0, none⟩) (some ⟨g4, 0, none⟩) := by
  refine VcNm.mk' (vo_ro h.M h.b1) h.F.vc.vo (vo_ro h.V h.b3) (vo_rob h.H h.b4) (fun k h1 h2 => ?_) (bkS_ap h.a13) (bkS_ap h.a14) (fun k h1 h2 => ?_) (fun k h1 h2 => ?_) (bkS_ap h.a34)
  · obtain ⟨g, e, h0, rfl⟩ := rc_bk h.F h2
    exact (h.aF _ e h0).1 (bkS_new h1).symm
  · obtain ⟨g, e, h0, rfl⟩ := rc_bk h.F h1
    exact (h.aF _ e h0).2.1 (bkS_new h2).symm
  · obtain ⟨g, e, h0, rfl⟩ := rc_bk h.F h1
    exact (h.aF _ e h0).2.2 (bkS_new h2).symm
theorem OwC.src {B : Nat} {u : World} {x : Nm} {g1 : Nat} {aF : Option Addr} {cF g3 g4 : Nat} (h : OwC B u x g1 aF cF g3 g4) : SrcN u x (some ⟨g1, 0, none⟩) aF (some ⟨g3, 0, none⟩) (some ⟨g4, 0, none⟩) := h.vc.src
theorem OwC.mono {B B' : Nat} {u : World} {x : Nm} {g1 : Nat} {aF : Option Addr} {cF g3 g4 : Nat} (h : OwC B u x g1 aF cF g3 g4) (hB : B' ≤ B) : OwC B' u x g1 aF cF g3 g4 :=
  ⟨by have := h.b1; omega, by have := h.b3; omega, by have := h.b4; omega, h.M, h.F.mono hB, h.V, h.H, h.a13, h.a14, h.a34, h.aF⟩
/-- What lies below turns nothing of it. -/
theorem OwC.but {B : Nat} {L : List Nat} {u u' : World} {x : Nm} {g1 : Nat} {aF : Option Addr} {cF g3 g4 : Nat} (h : OwC B u x g1 aF cF g3 g4) (f : But L u u') (hL : ∀ k, k ∈ L → k < B) : OwC B u' x g1 aF cF g3 g4 :=
  ⟨h.b1, h.b3, h.b4, h.M.but f (fun hm => by have := hL _ hm; have := h.b1; omega), h.F.but f hL, h.V.but f (fun hm => by have := hL _ hm; have := h.b3; omega), h.H.but f (fun hm => by have := hL _ hm; have := h.b4; omega), h.a13, h.a14, h.a34, h.aF⟩
/-- Behind l6Copy. -/
def CpN (x : Nm) (w : World) (e : Ending) (w' : World) : Prop := ∃ g1 aF g3 g4 c1 cF c3 c4, e = .returned (.agg #[.slice (some ⟨g1, 0, none⟩) x.M.length c1, .slice aF x.F.length cF, .slice (some ⟨g3, 0, none⟩) x.V.length c3, .slice (some ⟨g4, 0, none⟩) x.H.length c4]) ∧ OwC w.heap.size w' x g1 aF cF g3 g4 ∧ Fr w w'
set_option maxRecDepth 8000 in
set_option maxHeartbeats 4000000 in
theorem spec_l6Copy_a (x : Nm) (aM aF aV aH : Option Addr) (cM cF cV cH : Nat) (w : World) (h : SrcN w x aM aF aV aH) (lM : x.M.length = 8) (lF : x.F.length ≤ 100) (lV : x.V.length = 20) (lH : x.H.length = 20) (hp : 0 < x.F.length) :
    Calls Try.prog 66 #[.agg #[.slice aM x.M.length cM, .slice aF x.F.length cF, .slice aV x.V.length cV, .slice aH x.H.length cH]] w (CpN x w) := by
  obtain ⟨i0, hi, hz0, hz1, hz2⟩ := info_parts info_intV
  obtain ⟨j0, hj, hy0, hy1, hy2⟩ := info_partsB info_boolV
  obtain ⟨hM, hF, hV, hH⟩ := h
  obtain ⟨sM, oM, rfl, qM, kM⟩ := hM (by omega)
  obtain ⟨sV, oV, rfl, qV, kV⟩ := hV (by omega)
  obtain ⟨sH, oH, rfl, qH, kH⟩ := hH (by omega)
  obtain ⟨sF, oF, rfl, qF, kF⟩ := hF hp
  have KM := Lib.hid (fun (u : World) (f : Fr w u) => show ∀ i, i < x.M.length → u.cell? ⟨sM, oM + i, none⟩ = some (ivl x.M i) from fun i hi => by rw [f.cell qM]; exact kM i hi)
  have KV := Lib.hid (fun (u : World) (f : Fr w u) => show ∀ i, i < x.V.length → u.cell? ⟨sV, oV + i, none⟩ = some (ivl x.V i) from fun i hi => by rw [f.cell qV]; exact kV i hi)
  have KH := Lib.hid (fun (u : World) (f : Fr w u) => show ∀ i, i < x.H.length → u.cell? ⟨sH, oH + i, none⟩ = some (bvl x.H i) from fun i hi => by rw [f.cell qH]; exact kH i hi)
  have KF := Lib.hid (fun (u : World) (f : Fr w u) => show ∀ i, i < x.F.length → u.cell? ⟨sF, oF + i, none⟩ = some (ivl x.F i) from fun i hi => by rw [f.cell qF]; exact kF i hi)
  have F2 : Fr w ((w.alloc (.cells #[.slice (some ⟨sM, oM, none⟩) x.M.length cM, .slice (some ⟨sF, oF, none⟩) x.F.length cF, .slice (some ⟨sV, oV, none⟩) x.V.length cV, .slice (some ⟨sH, oH, none⟩) x.H.length cH] 25)).alloc (.cells #[.slice none 0 0, .slice none 0 0, .slice none 0 0, .slice none 0 0] 25)) := by (repeat' first | (with_reducible exact Below.refl _ _) | (with_reducible assumption) | ((with_reducible refine Below.setCell ?_ ?hb _); (case hb => first | exact Nat.le_refl _ | (simp; done) | (simp; omega) | omega)) | ((with_reducible refine Below.alloc ?_ ?hb _); (case hb => first | exact Nat.le_refl _ | (simp; done) | (simp; omega) | omega)) | (with_reducible refine Below.drew ?_))
  have HF := Lib.hid F2
  have HB := Lib.hid (show Box4 ((w.alloc (.cells #[.slice (some ⟨sM, oM, none⟩) x.M.length cM, .slice (some ⟨sF, oF, none⟩) x.F.length cF, .slice (some ⟨sV, oV, none⟩) x.V.length cV, .slice (some ⟨sH, oH, none⟩) x.H.length cH] 25)).alloc (.cells #[.slice none 0 0, .slice none 0 0, .slice none 0 0, .slice none 0 0] 25)) w.heap.size (.slice (some ⟨sM, oM, none⟩) x.M.length cM) (.slice (some ⟨sF, oF, none⟩) x.F.length cF) (.slice (some ⟨sV, oV, none⟩) x.V.length cV) (.slice (some ⟨sH, oH, none⟩) x.H.length cH) from (Box4.new _ _ _ _ _ _ _ rfl).fr (Fr.alloc _ _))
  have HZ := Lib.hid (show Box4 ((w.alloc (.cells #[.slice (some ⟨sM, oM, none⟩) x.M.length cM, .slice (some ⟨sF, oF, none⟩) x.F.length cF, .slice (some ⟨sV, oV, none⟩) x.V.length cV, .slice (some ⟨sH, oH, none⟩) x.H.length cH] 25)).alloc (.cells #[.slice none 0 0, .slice none 0 0, .slice none 0 0, .slice none 0 0] 25)) (w.heap.size + 1) (.slice none 0 0) (.slice none 0 0) (.slice none 0 0) (.slice none 0 0) from Box4.new _ _ _ _ _ _ _ (by simp))
  have HUS := Lib.hid (show ((w.alloc (.cells #[.slice (some ⟨sM, oM, none⟩) x.M.length cM, .slice (some ⟨sF, oF, none⟩) x.F.length cF, .slice (some ⟨sV, oV, none⟩) x.V.length cV, .slice (some ⟨sH, oH, none⟩) x.H.length cH] 25)).alloc (.cells #[.slice none 0 0, .slice none 0 0, .slice none 0 0, .slice none 0 0] 25)).heap.size = w.heap.size + 2 by simp)
  have HLM := Lib.hid lM
  have HLV := Lib.hid lV
  have HLH := Lib.hid lH
  have HLF := Lib.hid (show 0 < x.F.length from hp)
  have HLF' := Lib.hid lF
  clear F2 hM hF hV hH kM kV kH qM qV qH lM lV lH lF hp kF qF
  go_enter Try.func66, Try.ntmps66
  go_wp2_with fail
  generalize ((w.alloc (.cells #[.slice (some ⟨sM, oM, none⟩) x.M.length cM, .slice (some ⟨sF, oF, none⟩) x.F.length cF, .slice (some ⟨sV, oV, none⟩) x.V.length cV, .slice (some ⟨sH, oH, none⟩) x.H.length cH] 25)).alloc (.cells #[.slice none 0 0, .slice none 0 0, .slice none 0 0, .slice none 0 0] 25)) = u0 at *
  refine wp_region_rows 20 17 [] (fun _ => []) lb0_in (fun i => i == 3 || i == 7 || i == 11 || i == 15) (fun i v u => match i with | 0 => ∃ g : Nat, v = .slice (some ⟨g, 0, none⟩) 0 0 | 1 => v = .pointer (some ⟨w.heap.size, 0, none⟩) | 2 => v = .slice (some ⟨sM, oM, none⟩) x.M.length cM | 3 => ∃ g c, v = .slice (some ⟨g, 0, none⟩) x.M.length c ∧ u0.heap.size ≤ g ∧ Ro u g x.M | 4 => ∃ g : Nat, v = .slice (some ⟨g, 0, none⟩) 0 0 | 5 => v = .pointer (some ⟨w.heap.size, 1, none⟩) | 6 => v = .slice (some ⟨sF, oF, none⟩) x.F.length cF | 7 => ∃ g c, v = .slice (some ⟨g, 0, none⟩) x.F.length c ∧ u0.heap.size ≤ g ∧ Ro u g x.F ∧ Ca u g x.F.length c | 8 => ∃ g : Nat, v = .slice (some ⟨g, 0, none⟩) 0 0 | 9 => v = .pointer (some ⟨w.heap.size, 2, none⟩) | 10 => v = .slice (some ⟨sV, oV, none⟩) x.V.length cV | 11 => ∃ g c, v = .slice (some ⟨g, 0, none⟩) x.V.length c ∧ u0.heap.size ≤ g ∧ Ro u g x.V | 12 => ∃ g : Nat, v = .slice (some ⟨g, 0, none⟩) 0 0 | 13 => v = .pointer (some ⟨w.heap.size, 3, none⟩) | 14 => v = .slice (some ⟨sH, oH, none⟩) x.H.length cH | 15 => ∃ g c, v = .slice (some ⟨g, 0, none⟩) x.H.length c ∧ u0.heap.size ≤ g ∧ RoB u g x.H | 16 => ∃ g3 c3 g7 c7 g11 c11 g15 c15, v = .agg #[.slice (some ⟨g3, 0, none⟩) x.M.length c3, .slice (some ⟨g7, 0, none⟩) x.F.length c7, .slice (some ⟨g11, 0, none⟩) x.V.length c11, .slice (some ⟨g15, 0, none⟩) x.H.length c15] ∧ u0.heap.size ≤ g3 ∧ u0.heap.size ≤ g11 ∧ u0.heap.size ≤ g15 ∧ Ro u g3 x.M ∧ Ro u g11 x.V ∧ RoB u g15 x.H ∧ g3 ≠ g11 ∧ g3 ≠ g15 ∧ g11 ≠ g15 ∧ u0.heap.size ≤ g7 ∧ Ro u g7 x.F ∧ Ca u g7 x.F.length c7 ∧ g3 ≠ g7 ∧ g7 ≠ g11 ∧ g7 ≠ g15 | _ => True) ?mono (by kernel_rfl) (by kernel_rfl) rfl (by kernel_rfl) (by kernel_rfl) (by decide) ?step ?fin
  case mono =>
    intro i j v u u' hi hij hdj hsz h hB
    rcases j with _ | _ | _ | _ | _ | _ | _ | _ | _ | _ | _ | _ | _ | _ | _ | _ | _ | j
    · exact h
    · exact h
    · exact h
    · obtain ⟨g, c, e, hb, r⟩ := h
      exact ⟨g, c, e, hb, r.but hB (by simp)⟩
    · exact h
    · exact h
    · exact h
    · obtain ⟨g, c, e, hb, r, q⟩ := h
      exact ⟨g, c, e, hb, r.but hB (by simp), q.but hB (by simp)⟩
    · exact h
    · exact h
    · exact h
    · obtain ⟨g, c, e, hb, r⟩ := h
      exact ⟨g, c, e, hb, r.but hB (by simp)⟩
    · exact h
    · exact h
    · exact h
    · obtain ⟨g, c, e, hb, r⟩ := h
      exact ⟨g, c, e, hb, r.but hB (by simp)⟩
    · obtain ⟨g3, c3, g7, c7, g11, c11, g15, c15, e, b3, b11, b15, r3, r11, r15, n1, n2, n3, b7, r7, k7, n4, n5, n6⟩ := h
      exact ⟨g3, c3, g7, c7, g11, c11, g15, c15, e, b3, b11, b15, r3.but hB (by simp), r11.but hB (by simp), r15.but hB (by simp), n1, n2, n3, b7, r7.but hB (by simp), k7.but hB (by simp), n4, n5, n6⟩
    · trivial
  case step =>
    intro i o ho hiz
    rcases i with _ | _ | _ | _ | _ | _ | _ | _ | _ | _ | _ | _ | _ | _ | _ | _ | _ | _ | i
    · clear hiz
      cases ho
      intro act u hB hL hdep hap hnw
      replace hB := hB [] (fun j _ k hk => lb0_in j k hk)
      obtain ⟨ysl, ha, hy⟩ := hL.puts [3, 4, 5, 6, 7, 8, 9, 10, 11, 12, 13, 14, 15, 16, 17, 18, 19] (by kernel_rfl)
      clear hdep hL hy hap hnw
      simp only [List.foldl, List.setIfInBounds_toArray, List.set_cons_succ, List.set_cons_zero] at ha
      subst ha
      refine wpOp_step rfl (fun K hK => ?_)
      go_simp
      exact hK _ _ ⟨_, rfl, (fun h => by cases h), ⟨_, rfl⟩, But.of (Fr.alloc _ _), (fun h => by cases h)⟩
    · clear hiz
      cases ho
      intro act u hB hL hdep hap hnw
      replace hB := hB [] (fun j _ k hk => lb0_in j k hk)
      obtain ⟨ysl, ha, hy⟩ := hL.puts [3, 4, 5, 6, 7, 8, 9, 10, 11, 12, 13, 14, 15, 16, 17, 18, 19] (by kernel_rfl)
      clear hdep hL hy hap hnw
      simp only [List.foldl, List.setIfInBounds_toArray, List.set_cons_succ, List.set_cons_zero] at ha
      subst ha
      refine wpOp_step rfl (fun K hK => ?_)
      go_simp
      exact hK _ _ ⟨_, rfl, (fun h => by cases h), rfl, But.refl _ _, (fun h => by cases h)⟩
    · clear hiz
      cases ho
      intro act u hB hL hdep hap hnw
      replace hB := hB [] (fun j _ k hk => lb0_in j k hk)
      have d1 := hdep { on := 1, ground := .data } (by simp) rfl _ rfl
      obtain ⟨ysl, ha, hy⟩ := hL.puts [3, 4, 5, 6, 7, 8, 9, 10, 11, 12, 13, 14, 15, 16, 17, 18, 19] (by kernel_rfl)
      have e1 : ysl 4 = _ := (hy 4).symm.trans d1
      clear hdep hL hy hap hnw d1
      simp only [List.foldl, List.setIfInBounds_toArray, List.set_cons_succ, List.set_cons_zero, e1] at ha
      subst ha
      clear e1
      obtain ⟨_, c0, c1, c2, c3, _, _, _, _⟩ := HB.out.but hB (by simp)
      refine wpOp_step rfl (fun K hK => ?_)
      go_simp
      exact hK _ _ ⟨_, rfl, (fun h => by cases h), rfl, But.refl _ _, (fun h => by cases h)⟩
    · clear hiz
      cases ho
      intro act u hB hL hdep hap hnw
      replace hB := hB [] (fun j _ k hk => lb0_in j k hk)
      have d0 := hdep { on := 0, ground := .data } (by simp) rfl _ rfl
      have d2 := hdep { on := 2, ground := .data } (by simp) rfl _ rfl
      obtain ⟨ysl, ha, hy⟩ := hL.puts [3, 4, 5, 6, 7, 8, 9, 10, 11, 12, 13, 14, 15, 16, 17, 18, 19] (by kernel_rfl)
      obtain ⟨g0, h0⟩ := d0
      have e0 : ysl 3 = .slice (some ⟨g0, 0, none⟩) 0 0 := (hy 3).symm.trans h0
      have e2 : ysl 5 = _ := (hy 5).symm.trans d2
      clear hdep hL hy hap hnw d2 h0
      simp only [List.foldl, List.setIfInBounds_toArray, List.set_cons_succ, List.set_cons_zero, e0, e2] at ha
      subst ha
      clear e0 e2
      refine wpOp_step rfl (fun K hK => ?_)
      rw [if_pos (by simp [Region.wanted])]
      refine wp_append_new _ _ 22 rfl 3 i0 (.int .i64 0) Try.underlying22 hi hz0 hz1 hz2 _ rfl ⟨sM, oM, none⟩ _ _ (x.M.map (Value.int .i64)) rfl (by simp) (cells_of x.M (KM.out u (fr_but (L := []) HF.out hB (fun k hk => by cases hk)))) (ints_one _) (by have := HLM.out; omega) (by have := HLM.out; omega) ?_
      intro cp zs hzs
      refine hK _ _ ⟨_, rfl, (fun h => by cases h), ⟨_, cp, rfl, hB.size, ro_new u.drew x.M zs _⟩, But.of ((Below.drew (Below.refl _ _)).alloc (Nat.le_refl _) _), (fun _ p hp => by cases hp; exact ⟨Nat.le_refl _, by simp⟩)⟩
    · clear hiz
      cases ho
      intro act u hB hL hdep hap hnw
      replace hB := hB [] (fun j _ k hk => lb0_in j k hk)
      obtain ⟨ysl, ha, hy⟩ := hL.puts [3, 4, 5, 6, 7, 8, 9, 10, 11, 12, 13, 14, 15, 16, 17, 18, 19] (by kernel_rfl)
      clear hdep hL hy hap hnw
      simp only [List.foldl, List.setIfInBounds_toArray, List.set_cons_succ, List.set_cons_zero] at ha
      subst ha
      refine wpOp_step rfl (fun K hK => ?_)
      go_simp
      exact hK _ _ ⟨_, rfl, (fun h => by cases h), ⟨_, rfl⟩, But.of (Fr.alloc _ _), (fun h => by cases h)⟩
    · clear hiz
      cases ho
      intro act u hB hL hdep hap hnw
      replace hB := hB [] (fun j _ k hk => lb0_in j k hk)
      obtain ⟨ysl, ha, hy⟩ := hL.puts [3, 4, 5, 6, 7, 8, 9, 10, 11, 12, 13, 14, 15, 16, 17, 18, 19] (by kernel_rfl)
      clear hdep hL hy hap hnw
      simp only [List.foldl, List.setIfInBounds_toArray, List.set_cons_succ, List.set_cons_zero] at ha
      subst ha
      refine wpOp_step rfl (fun K hK => ?_)
      go_simp
      exact hK _ _ ⟨_, rfl, (fun h => by cases h), rfl, But.refl _ _, (fun h => by cases h)⟩
    · clear hiz
      cases ho
      intro act u hB hL hdep hap hnw
      replace hB := hB [] (fun j _ k hk => lb0_in j k hk)
      have d5 := hdep { on := 5, ground := .data } (by simp) rfl _ rfl
      obtain ⟨ysl, ha, hy⟩ := hL.puts [3, 4, 5, 6, 7, 8, 9, 10, 11, 12, 13, 14, 15, 16, 17, 18, 19] (by kernel_rfl)
      have e5 : ysl 8 = _ := (hy 8).symm.trans d5
      clear hdep hL hy hap hnw d5
      simp only [List.foldl, List.setIfInBounds_toArray, List.set_cons_succ, List.set_cons_zero, e5] at ha
      subst ha
      clear e5
      obtain ⟨_, c0, c1, c2, c3, _, _, _, _⟩ := HB.out.but hB (by simp)
      refine wpOp_step rfl (fun K hK => ?_)
      go_simp
      exact hK _ _ ⟨_, rfl, (fun h => by cases h), rfl, But.refl _ _, (fun h => by cases h)⟩
    · clear hiz
      cases ho
      intro act u hB hL hdep hap hnw
      replace hB := hB [] (fun j _ k hk => lb0_in j k hk)
      have d4 := hdep { on := 4, ground := .data } (by simp) rfl _ rfl
      have d6 := hdep { on := 6, ground := .data } (by simp) rfl _ rfl
      obtain ⟨ysl, ha, hy⟩ := hL.puts [3, 4, 5, 6, 7, 8, 9, 10, 11, 12, 13, 14, 15, 16, 17, 18, 19] (by kernel_rfl)
      obtain ⟨g4, h4⟩ := d4
      have e4 : ysl 7 = .slice (some ⟨g4, 0, none⟩) 0 0 := (hy 7).symm.trans h4
      have e6 : ysl 9 = _ := (hy 9).symm.trans d6
      clear hdep hL hy hap hnw d6 h4
      simp only [List.foldl, List.setIfInBounds_toArray, List.set_cons_succ, List.set_cons_zero, e4, e6] at ha
      subst ha
      clear e4 e6
      refine wpOp_step rfl (fun K hK => ?_)
      rw [if_pos (by simp [Region.wanted])]
      refine wp_append_new _ _ 22 rfl 3 i0 (.int .i64 0) Try.underlying22 hi hz0 hz1 hz2 _ rfl ⟨sF, oF, none⟩ _ _ (x.F.map (Value.int .i64)) rfl (by simp) (cells_of x.F (KF.out u (fr_but (L := []) HF.out hB (fun k hk => by cases hk)))) (ints_one _) HLF.out (by have := HLF'.out; omega) ?_
      intro cp zs hzs
      refine hK _ _ ⟨_, rfl, (fun h => by cases h), ⟨_, cp, rfl, hB.size, ro_new u.drew x.F zs _, ca_new u.drew x.F zs cp (hzs rfl)⟩, But.of ((Below.drew (Below.refl _ _)).alloc (Nat.le_refl _) _), (fun _ p hp => by cases hp; exact ⟨Nat.le_refl _, by simp⟩)⟩
    · clear hiz
      cases ho
      intro act u hB hL hdep hap hnw
      replace hB := hB [] (fun j _ k hk => lb0_in j k hk)
      obtain ⟨ysl, ha, hy⟩ := hL.puts [3, 4, 5, 6, 7, 8, 9, 10, 11, 12, 13, 14, 15, 16, 17, 18, 19] (by kernel_rfl)
      clear hdep hL hy hap hnw
      simp only [List.foldl, List.setIfInBounds_toArray, List.set_cons_succ, List.set_cons_zero] at ha
      subst ha
      refine wpOp_step rfl (fun K hK => ?_)
      go_simp
      exact hK _ _ ⟨_, rfl, (fun h => by cases h), ⟨_, rfl⟩, But.of (Fr.alloc _ _), (fun h => by cases h)⟩
    · clear hiz
      cases ho
      intro act u hB hL hdep hap hnw
      replace hB := hB [] (fun j _ k hk => lb0_in j k hk)
      obtain ⟨ysl, ha, hy⟩ := hL.puts [3, 4, 5, 6, 7, 8, 9, 10, 11, 12, 13, 14, 15, 16, 17, 18, 19] (by kernel_rfl)
      clear hdep hL hy hap hnw
      simp only [List.foldl, List.setIfInBounds_toArray, List.set_cons_succ, List.set_cons_zero] at ha
      subst ha
      refine wpOp_step rfl (fun K hK => ?_)
      go_simp
      exact hK _ _ ⟨_, rfl, (fun h => by cases h), rfl, But.refl _ _, (fun h => by cases h)⟩
    · clear hiz
      cases ho
      intro act u hB hL hdep hap hnw
      replace hB := hB [] (fun j _ k hk => lb0_in j k hk)
      have d9 := hdep { on := 9, ground := .data } (by simp) rfl _ rfl
      obtain ⟨ysl, ha, hy⟩ := hL.puts [3, 4, 5, 6, 7, 8, 9, 10, 11, 12, 13, 14, 15, 16, 17, 18, 19] (by kernel_rfl)
      have e9 : ysl 12 = _ := (hy 12).symm.trans d9
      clear hdep hL hy hap hnw d9
      simp only [List.foldl, List.setIfInBounds_toArray, List.set_cons_succ, List.set_cons_zero, e9] at ha
      subst ha
      clear e9
      obtain ⟨_, c0, c1, c2, c3, _, _, _, _⟩ := HB.out.but hB (by simp)
      refine wpOp_step rfl (fun K hK => ?_)
      go_simp
      exact hK _ _ ⟨_, rfl, (fun h => by cases h), rfl, But.refl _ _, (fun h => by cases h)⟩
    · clear hiz
      cases ho
      intro act u hB hL hdep hap hnw
      replace hB := hB [] (fun j _ k hk => lb0_in j k hk)
      have d8 := hdep { on := 8, ground := .data } (by simp) rfl _ rfl
      have d10 := hdep { on := 10, ground := .data } (by simp) rfl _ rfl
      obtain ⟨ysl, ha, hy⟩ := hL.puts [3, 4, 5, 6, 7, 8, 9, 10, 11, 12, 13, 14, 15, 16, 17, 18, 19] (by kernel_rfl)
      obtain ⟨g8, h8⟩ := d8
      have e8 : ysl 11 = .slice (some ⟨g8, 0, none⟩) 0 0 := (hy 11).symm.trans h8
      have e10 : ysl 13 = _ := (hy 13).symm.trans d10
      clear hdep hL hy hap hnw d10 h8
      simp only [List.foldl, List.setIfInBounds_toArray, List.set_cons_succ, List.set_cons_zero, e8, e10] at ha
      subst ha
      clear e8 e10
      refine wpOp_step rfl (fun K hK => ?_)
      rw [if_pos (by simp [Region.wanted])]
      refine wp_append_new _ _ 22 rfl 3 i0 (.int .i64 0) Try.underlying22 hi hz0 hz1 hz2 _ rfl ⟨sV, oV, none⟩ _ _ (x.V.map (Value.int .i64)) rfl (by simp) (cells_of x.V (KV.out u (fr_but (L := []) HF.out hB (fun k hk => by cases hk)))) (ints_one _) (by have := HLV.out; omega) (by have := HLV.out; omega) ?_
      intro cp zs hzs
      refine hK _ _ ⟨_, rfl, (fun h => by cases h), ⟨_, cp, rfl, hB.size, ro_new u.drew x.V zs _⟩, But.of ((Below.drew (Below.refl _ _)).alloc (Nat.le_refl _) _), (fun _ p hp => by cases hp; exact ⟨Nat.le_refl _, by simp⟩)⟩
    · clear hiz
      cases ho
      intro act u hB hL hdep hap hnw
      replace hB := hB [] (fun j _ k hk => lb0_in j k hk)
      obtain ⟨ysl, ha, hy⟩ := hL.puts [3, 4, 5, 6, 7, 8, 9, 10, 11, 12, 13, 14, 15, 16, 17, 18, 19] (by kernel_rfl)
      clear hdep hL hy hap hnw
      simp only [List.foldl, List.setIfInBounds_toArray, List.set_cons_succ, List.set_cons_zero] at ha
      subst ha
      refine wpOp_step rfl (fun K hK => ?_)
      go_simp
      exact hK _ _ ⟨_, rfl, (fun h => by cases h), ⟨_, rfl⟩, But.of (Fr.alloc _ _), (fun h => by cases h)⟩
    · clear hiz
      cases ho
      intro act u hB hL hdep hap hnw
      replace hB := hB [] (fun j _ k hk => lb0_in j k hk)
      obtain ⟨ysl, ha, hy⟩ := hL.puts [3, 4, 5, 6, 7, 8, 9, 10, 11, 12, 13, 14, 15, 16, 17, 18, 19] (by kernel_rfl)
      clear hdep hL hy hap hnw
      simp only [List.foldl, List.setIfInBounds_toArray, List.set_cons_succ, List.set_cons_zero] at ha
      subst ha
      refine wpOp_step rfl (fun K hK => ?_)
      go_simp
      exact hK _ _ ⟨_, rfl, (fun h => by cases h), rfl, But.refl _ _, (fun h => by cases h)⟩
    · clear hiz
      cases ho
      intro act u hB hL hdep hap hnw
      replace hB := hB [] (fun j _ k hk => lb0_in j k hk)
      have d13 := hdep { on := 13, ground := .data } (by simp) rfl _ rfl
      obtain ⟨ysl, ha, hy⟩ := hL.puts [3, 4, 5, 6, 7, 8, 9, 10, 11, 12, 13, 14, 15, 16, 17, 18, 19] (by kernel_rfl)
      have e13 : ysl 16 = _ := (hy 16).symm.trans d13
      clear hdep hL hy hap hnw d13
      simp only [List.foldl, List.setIfInBounds_toArray, List.set_cons_succ, List.set_cons_zero, e13] at ha
      subst ha
      clear e13
      obtain ⟨_, c0, c1, c2, c3, _, _, _, _⟩ := HB.out.but hB (by simp)
      refine wpOp_step rfl (fun K hK => ?_)
      go_simp
      exact hK _ _ ⟨_, rfl, (fun h => by cases h), rfl, But.refl _ _, (fun h => by cases h)⟩
    · clear hiz
      cases ho
      intro act u hB hL hdep hap hnw
      replace hB := hB [] (fun j _ k hk => lb0_in j k hk)
      have d12 := hdep { on := 12, ground := .data } (by simp) rfl _ rfl
      have d14 := hdep { on := 14, ground := .data } (by simp) rfl _ rfl
      obtain ⟨ysl, ha, hy⟩ := hL.puts [3, 4, 5, 6, 7, 8, 9, 10, 11, 12, 13, 14, 15, 16, 17, 18, 19] (by kernel_rfl)
      obtain ⟨g12, h12⟩ := d12
      have e12 : ysl 15 = .slice (some ⟨g12, 0, none⟩) 0 0 := (hy 15).symm.trans h12
      have e14 : ysl 17 = _ := (hy 17).symm.trans d14
      clear hdep hL hy hap hnw d14 h12
      simp only [List.foldl, List.setIfInBounds_toArray, List.set_cons_succ, List.set_cons_zero, e12, e14] at ha
      subst ha
      clear e12 e14
      refine wpOp_step rfl (fun K hK => ?_)
      rw [if_pos (by simp [Region.wanted])]
      refine wp_append_newB _ _ 23 rfl 4 j0 (.bool false) Try.underlying23 hj hy0 hy1 hy2 _ rfl ⟨sH, oH, none⟩ _ _ (x.H.map Value.bool) rfl (by simp) (cells_ofB x.H (KH.out u (fr_but (L := []) HF.out hB (fun k hk => by cases hk)))) (bools_one _) (by have := HLH.out; omega) (by have := HLH.out; omega) ?_
      intro cp zs hzs
      refine hK _ _ ⟨_, rfl, (fun h => by cases h), ⟨_, cp, rfl, hB.size, rob_new u.drew x.H zs _⟩, But.of ((Below.drew (Below.refl _ _)).alloc (Nat.le_refl _) _), (fun _ p hp => by cases hp; exact ⟨Nat.le_refl _, by simp⟩)⟩
    · clear hiz
      cases ho
      intro act u hB hL hdep hap hnw
      replace hB := hB [] (fun j _ k hk => lb0_in j k hk)
      have d3 := hdep { on := 3, ground := .data } (by simp) rfl _ rfl
      have d7 := hdep { on := 7, ground := .data } (by simp) rfl _ rfl
      have d11 := hdep { on := 11, ground := .data } (by simp) rfl _ rfl
      have d15 := hdep { on := 15, ground := .data } (by simp) rfl _ rfl
      obtain ⟨ysl, ha, hy⟩ := hL.puts [3, 4, 5, 6, 7, 8, 9, 10, 11, 12, 13, 14, 15, 16, 17, 18, 19] (by kernel_rfl)
      obtain ⟨g3, c3, h3, b3, r3⟩ := d3
      have e3 : ysl 6 = .slice (some ⟨g3, 0, none⟩) x.M.length c3 := (hy 6).symm.trans h3
      obtain ⟨g7, c7, h7, b7, r7, k7⟩ := d7
      have e7 : ysl 10 = .slice (some ⟨g7, 0, none⟩) x.F.length c7 := (hy 10).symm.trans h7
      obtain ⟨g11, c11, h11, b11, r11⟩ := d11
      have e11 : ysl 14 = .slice (some ⟨g11, 0, none⟩) x.V.length c11 := (hy 14).symm.trans h11
      obtain ⟨g15, c15, h15, b15, r15⟩ := d15
      have e15 : ysl 18 = .slice (some ⟨g15, 0, none⟩) x.H.length c15 := (hy 18).symm.trans h15
      have n311 := hap { on := 3, ground := .data } (by simp) { on := 11, ground := .data } (by simp) rfl rfl (by decide) rfl rfl _ _ rfl rfl g3 g11 (by rw [h3]; rfl) (by rw [h11]; rfl)
      have n315 := hap { on := 3, ground := .data } (by simp) { on := 15, ground := .data } (by simp) rfl rfl (by decide) rfl rfl _ _ rfl rfl g3 g15 (by rw [h3]; rfl) (by rw [h15]; rfl)
      have n1115 := hap { on := 11, ground := .data } (by simp) { on := 15, ground := .data } (by simp) rfl rfl (by decide) rfl rfl _ _ rfl rfl g11 g15 (by rw [h11]; rfl) (by rw [h15]; rfl)
      have n37 := hap { on := 3, ground := .data } (by simp) { on := 7, ground := .data } (by simp) rfl rfl (by decide) rfl rfl _ _ rfl rfl g3 g7 (by rw [h3]; rfl) (by rw [h7]; rfl)
      have n711 := hap { on := 7, ground := .data } (by simp) { on := 11, ground := .data } (by simp) rfl rfl (by decide) rfl rfl _ _ rfl rfl g7 g11 (by rw [h7]; rfl) (by rw [h11]; rfl)
      have n715 := hap { on := 7, ground := .data } (by simp) { on := 15, ground := .data } (by simp) rfl rfl (by decide) rfl rfl _ _ rfl rfl g7 g15 (by rw [h7]; rfl) (by rw [h15]; rfl)
      clear hdep hL hy hap hnw h3 h7 h11 h15
      simp only [List.foldl, List.setIfInBounds_toArray, List.set_cons_succ, List.set_cons_zero, e3, e7, e11, e15] at ha
      subst ha
      clear e3 e7 e11 e15
      refine wpOp_step rfl (fun K hK => ?_)
      go_simp
      exact hK _ _ ⟨_, rfl, (fun h => by cases h), ⟨g3, c3, g7, c7, g11, c11, g15, c15, rfl, b3, b11, b15, r3, r11, r15, n311, n315, n1115, b7, r7, k7, n37, n711, n715⟩, But.refl _ _, (fun h => by cases h)⟩
    · exact absurd rfl hiz
    · exact absurd ho (by simp)
  case fin =>
    intro act u hB hL hsf hap hnw
    have d16 := hsf 16 _ rfl (by decide)
    obtain ⟨ysl, ha, hy⟩ := hL.puts [3, 4, 5, 6, 7, 8, 9, 10, 11, 12, 13, 14, 15, 16, 17, 18, 19] (by kernel_rfl)
    obtain ⟨g3, c3, g7, c7, g11, c11, g15, c15, h16, b3, b11, b15, r3, r11, r15, n1, n2, n3, b7, r7, k7, n4, n5, n6⟩ := d16
    have e16 : ysl 19 = .agg #[.slice (some ⟨g3, 0, none⟩) x.M.length c3, .slice (some ⟨g7, 0, none⟩) x.F.length c7, .slice (some ⟨g11, 0, none⟩) x.V.length c11, .slice (some ⟨g15, 0, none⟩) x.H.length c15] := (hy 19).symm.trans h16
    clear hL hsf hy hap hnw h16
    simp only [List.foldl, List.setIfInBounds_toArray, List.set_cons_succ, List.set_cons_zero, e16] at ha
    subst ha
    clear e16
    obtain ⟨_, z0, z1, z2, z3, zf0, zf1, zf2, zf3⟩ := HZ.out.but hB (by simp)
    refine wpOp_step rfl (fun K hK => ?_)
    go_simp
    refine hK _ _ ?_
    have Bn := (HZ.out.but hB (by simp)).set (.slice (some ⟨g3, 0, none⟩) x.M.length c3) (.slice (some ⟨g7, 0, none⟩) x.F.length c7) (.slice (some ⟨g11, 0, none⟩) x.V.length c11) (.slice (some ⟨g15, 0, none⟩) x.H.length c15)
    have w0 := Bn.c0
    have w1 := Bn.c1
    have w2 := Bn.c2
    have w3 := Bn.c3
    have hst : But [w.heap.size + 1] u ((((u.setCell ⟨w.heap.size + 1, 0, none⟩ (.slice (some ⟨g3, 0, none⟩) x.M.length c3)).setCell ⟨w.heap.size + 1, 1, none⟩ (.slice (some ⟨g7, 0, none⟩) x.F.length c7)).setCell ⟨w.heap.size + 1, 2, none⟩ (.slice (some ⟨g11, 0, none⟩) x.V.length c11)).setCell ⟨w.heap.size + 1, 3, none⟩ (.slice (some ⟨g15, 0, none⟩) x.H.length c15)) := (But.refl _ _).set4 _ _ _ _ _ (.inl (by simp))
    have HFin := Lib.hid (show Fr w _ from fr_but (fr_but (L := []) HF.out hB (fun k hk => by cases hk)) hst (fun k hk => by have := List.mem_singleton.1 hk; omega))
    have hus := HUS.out
    have HO := Lib.hid (show OwC w.heap.size _ x g3 (some ⟨g7, 0, none⟩) c7 g11 g15 from ⟨by omega, by omega, by omega, r3.but hst (by simp; omega), .inr ⟨g7, rfl, by omega, r7.but hst (by simp; omega), k7.but hst (by simp; omega), HLF.out⟩, r11.but hst (by simp; omega), r15.but hst (by simp; omega), n1, n2, n3, fun g hg h0 => by cases hg; exact ⟨n4, n5.symm, n6.symm⟩⟩)
    clear Bn z0 z1 z2 z3 zf0 zf1 zf2 zf3 hst hB r3 r11 r15 r7 k7
    generalize ((((u.setCell ⟨w.heap.size + 1, 0, none⟩ (.slice (some ⟨g3, 0, none⟩) x.M.length c3)).setCell ⟨w.heap.size + 1, 1, none⟩ (.slice (some ⟨g7, 0, none⟩) x.F.length c7)).setCell ⟨w.heap.size + 1, 2, none⟩ (.slice (some ⟨g11, 0, none⟩) x.V.length c11)).setCell ⟨w.heap.size + 1, 3, none⟩ (.slice (some ⟨g15, 0, none⟩) x.H.length c15)) = u9 at *
    go_wp2
    refine bodyPost_ret (v := .agg #[.slice (some ⟨g3, 0, none⟩) x.M.length c3, .slice (some ⟨g7, 0, none⟩) x.F.length c7, .slice (some ⟨g11, 0, none⟩) x.V.length c11, .slice (some ⟨g15, 0, none⟩) x.H.length c15]) (by simp [results, Try.results66, go_sem, w0, w1, w2, w3]) rfl ?_
    exact ⟨g3, some ⟨g7, 0, none⟩, g11, g15, c3, c7, c11, c15, rfl, HO.out, HFin.out⟩
set_option maxRecDepth 8000 in
set_option maxHeartbeats 4000000 in
theorem spec_l6Copy_b (x : Nm) (aM aF aV aH : Option Addr) (cM cF cV cH : Nat) (w : World) (h : SrcN w x aM aF aV aH) (lM : x.M.length = 8) (lF : x.F.length ≤ 100) (lV : x.V.length = 20) (lH : x.H.length = 20) (hp : x.F.length = 0) :
    Calls Try.prog 66 #[.agg #[.slice aM x.M.length cM, .slice aF x.F.length cF, .slice aV x.V.length cV, .slice aH x.H.length cH]] w (CpN x w) := by
  obtain ⟨i0, hi, hz0, hz1, hz2⟩ := info_parts info_intV
  obtain ⟨j0, hj, hy0, hy1, hy2⟩ := info_partsB info_boolV
  obtain ⟨hM, hF, hV, hH⟩ := h
  obtain ⟨sM, oM, rfl, qM, kM⟩ := hM (by omega)
  obtain ⟨sV, oV, rfl, qV, kV⟩ := hV (by omega)
  obtain ⟨sH, oH, rfl, qH, kH⟩ := hH (by omega)
  have KM := Lib.hid (fun (u : World) (f : Fr w u) => show ∀ i, i < x.M.length → u.cell? ⟨sM, oM + i, none⟩ = some (ivl x.M i) from fun i hi => by rw [f.cell qM]; exact kM i hi)
  have KV := Lib.hid (fun (u : World) (f : Fr w u) => show ∀ i, i < x.V.length → u.cell? ⟨sV, oV + i, none⟩ = some (ivl x.V i) from fun i hi => by rw [f.cell qV]; exact kV i hi)
  have KH := Lib.hid (fun (u : World) (f : Fr w u) => show ∀ i, i < x.H.length → u.cell? ⟨sH, oH + i, none⟩ = some (bvl x.H i) from fun i hi => by rw [f.cell qH]; exact kH i hi)
  have F2 : Fr w ((w.alloc (.cells #[.slice (some ⟨sM, oM, none⟩) x.M.length cM, .slice aF x.F.length cF, .slice (some ⟨sV, oV, none⟩) x.V.length cV, .slice (some ⟨sH, oH, none⟩) x.H.length cH] 25)).alloc (.cells #[.slice none 0 0, .slice none 0 0, .slice none 0 0, .slice none 0 0] 25)) := by (repeat' first | (with_reducible exact Below.refl _ _) | (with_reducible assumption) | ((with_reducible refine Below.setCell ?_ ?hb _); (case hb => first | exact Nat.le_refl _ | (simp; done) | (simp; omega) | omega)) | ((with_reducible refine Below.alloc ?_ ?hb _); (case hb => first | exact Nat.le_refl _ | (simp; done) | (simp; omega) | omega)) | (with_reducible refine Below.drew ?_))
  have HF := Lib.hid F2
  have HB := Lib.hid (show Box4 ((w.alloc (.cells #[.slice (some ⟨sM, oM, none⟩) x.M.length cM, .slice aF x.F.length cF, .slice (some ⟨sV, oV, none⟩) x.V.length cV, .slice (some ⟨sH, oH, none⟩) x.H.length cH] 25)).alloc (.cells #[.slice none 0 0, .slice none 0 0, .slice none 0 0, .slice none 0 0] 25)) w.heap.size (.slice (some ⟨sM, oM, none⟩) x.M.length cM) (.slice aF x.F.length cF) (.slice (some ⟨sV, oV, none⟩) x.V.length cV) (.slice (some ⟨sH, oH, none⟩) x.H.length cH) from (Box4.new _ _ _ _ _ _ _ rfl).fr (Fr.alloc _ _))
  have HZ := Lib.hid (show Box4 ((w.alloc (.cells #[.slice (some ⟨sM, oM, none⟩) x.M.length cM, .slice aF x.F.length cF, .slice (some ⟨sV, oV, none⟩) x.V.length cV, .slice (some ⟨sH, oH, none⟩) x.H.length cH] 25)).alloc (.cells #[.slice none 0 0, .slice none 0 0, .slice none 0 0, .slice none 0 0] 25)) (w.heap.size + 1) (.slice none 0 0) (.slice none 0 0) (.slice none 0 0) (.slice none 0 0) from Box4.new _ _ _ _ _ _ _ (by simp))
  have HUS := Lib.hid (show ((w.alloc (.cells #[.slice (some ⟨sM, oM, none⟩) x.M.length cM, .slice aF x.F.length cF, .slice (some ⟨sV, oV, none⟩) x.V.length cV, .slice (some ⟨sH, oH, none⟩) x.H.length cH] 25)).alloc (.cells #[.slice none 0 0, .slice none 0 0, .slice none 0 0, .slice none 0 0] 25)).heap.size = w.heap.size + 2 by simp)
  have HLM := Lib.hid lM
  have HLV := Lib.hid lV
  have HLH := Lib.hid lH
  have HLF := Lib.hid hp
  clear F2 hM hF hV hH kM kV kH qM qV qH lM lV lH lF hp
  go_enter Try.func66, Try.ntmps66
  go_wp2_with fail
  generalize ((w.alloc (.cells #[.slice (some ⟨sM, oM, none⟩) x.M.length cM, .slice aF x.F.length cF, .slice (some ⟨sV, oV, none⟩) x.V.length cV, .slice (some ⟨sH, oH, none⟩) x.H.length cH] 25)).alloc (.cells #[.slice none 0 0, .slice none 0 0, .slice none 0 0, .slice none 0 0] 25)) = u0 at *
  refine wp_region_rows 20 17 [] (fun _ => []) lb0_in (fun i => i == 3 || i == 11 || i == 15) (fun i v u => match i with | 0 => ∃ g : Nat, v = .slice (some ⟨g, 0, none⟩) 0 0 | 1 => v = .pointer (some ⟨w.heap.size, 0, none⟩) | 2 => v = .slice (some ⟨sM, oM, none⟩) x.M.length cM | 3 => ∃ g c, v = .slice (some ⟨g, 0, none⟩) x.M.length c ∧ u0.heap.size ≤ g ∧ Ro u g x.M | 4 => ∃ g : Nat, v = .slice (some ⟨g, 0, none⟩) 0 0 | 5 => v = .pointer (some ⟨w.heap.size, 1, none⟩) | 6 => v = .slice aF x.F.length cF | 7 => ∃ g : Nat, v = .slice (some ⟨g, 0, none⟩) 0 0 | 8 => ∃ g : Nat, v = .slice (some ⟨g, 0, none⟩) 0 0 | 9 => v = .pointer (some ⟨w.heap.size, 2, none⟩) | 10 => v = .slice (some ⟨sV, oV, none⟩) x.V.length cV | 11 => ∃ g c, v = .slice (some ⟨g, 0, none⟩) x.V.length c ∧ u0.heap.size ≤ g ∧ Ro u g x.V | 12 => ∃ g : Nat, v = .slice (some ⟨g, 0, none⟩) 0 0 | 13 => v = .pointer (some ⟨w.heap.size, 3, none⟩) | 14 => v = .slice (some ⟨sH, oH, none⟩) x.H.length cH | 15 => ∃ g c, v = .slice (some ⟨g, 0, none⟩) x.H.length c ∧ u0.heap.size ≤ g ∧ RoB u g x.H | 16 => ∃ g3 c3 g7 g11 c11 g15 c15, v = .agg #[.slice (some ⟨g3, 0, none⟩) x.M.length c3, .slice (some ⟨g7, 0, none⟩) 0 0, .slice (some ⟨g11, 0, none⟩) x.V.length c11, .slice (some ⟨g15, 0, none⟩) x.H.length c15] ∧ u0.heap.size ≤ g3 ∧ u0.heap.size ≤ g11 ∧ u0.heap.size ≤ g15 ∧ Ro u g3 x.M ∧ Ro u g11 x.V ∧ RoB u g15 x.H ∧ g3 ≠ g11 ∧ g3 ≠ g15 ∧ g11 ≠ g15 | _ => True) ?mono (by kernel_rfl) (by kernel_rfl) rfl (by kernel_rfl) (by kernel_rfl) (by decide) ?step ?fin
  case mono =>
    intro i j v u u' hi hij hdj hsz h hB
    rcases j with _ | _ | _ | _ | _ | _ | _ | _ | _ | _ | _ | _ | _ | _ | _ | _ | _ | j
    · exact h
    · exact h
    · exact h
    · obtain ⟨g, c, e, hb, r⟩ := h
      exact ⟨g, c, e, hb, r.but hB (by simp)⟩
    · exact h
    · exact h
    · exact h
    · exact h
    · exact h
    · exact h
    · exact h
    · obtain ⟨g, c, e, hb, r⟩ := h
      exact ⟨g, c, e, hb, r.but hB (by simp)⟩
    · exact h
    · exact h
    · exact h
    · obtain ⟨g, c, e, hb, r⟩ := h
      exact ⟨g, c, e, hb, r.but hB (by simp)⟩
    · obtain ⟨g3, c3, g7, g11, c11, g15, c15, e, b3, b11, b15, r3, r11, r15, n1, n2, n3⟩ := h
      exact ⟨g3, c3, g7, g11, c11, g15, c15, e, b3, b11, b15, r3.but hB (by simp), r11.but hB (by simp), r15.but hB (by simp), n1, n2, n3⟩
    · trivial
  case step =>
    intro i o ho hiz
    rcases i with _ | _ | _ | _ | _ | _ | _ | _ | _ | _ | _ | _ | _ | _ | _ | _ | _ | _ | i
    · clear hiz
      cases ho
      intro act u hB hL hdep hap hnw
      replace hB := hB [] (fun j _ k hk => lb0_in j k hk)
      obtain ⟨ysl, ha, hy⟩ := hL.puts [3, 4, 5, 6, 7, 8, 9, 10, 11, 12, 13, 14, 15, 16, 17, 18, 19] (by kernel_rfl)
      clear hdep hL hy hap hnw
      simp only [List.foldl, List.setIfInBounds_toArray, List.set_cons_succ, List.set_cons_zero] at ha
      subst ha
      refine wpOp_step rfl (fun K hK => ?_)
      go_simp
      exact hK _ _ ⟨_, rfl, (fun h => by cases h), ⟨_, rfl⟩, But.of (Fr.alloc _ _), (fun h => by cases h)⟩
    · clear hiz
      cases ho
      intro act u hB hL hdep hap hnw
      replace hB := hB [] (fun j _ k hk => lb0_in j k hk)
      obtain ⟨ysl, ha, hy⟩ := hL.puts [3, 4, 5, 6, 7, 8, 9, 10, 11, 12, 13, 14, 15, 16, 17, 18, 19] (by kernel_rfl)
      clear hdep hL hy hap hnw
      simp only [List.foldl, List.setIfInBounds_toArray, List.set_cons_succ, List.set_cons_zero] at ha
      subst ha
      refine wpOp_step rfl (fun K hK => ?_)
      go_simp
      exact hK _ _ ⟨_, rfl, (fun h => by cases h), rfl, But.refl _ _, (fun h => by cases h)⟩
    · clear hiz
      cases ho
      intro act u hB hL hdep hap hnw
      replace hB := hB [] (fun j _ k hk => lb0_in j k hk)
      have d1 := hdep { on := 1, ground := .data } (by simp) rfl _ rfl
      obtain ⟨ysl, ha, hy⟩ := hL.puts [3, 4, 5, 6, 7, 8, 9, 10, 11, 12, 13, 14, 15, 16, 17, 18, 19] (by kernel_rfl)
      have e1 : ysl 4 = _ := (hy 4).symm.trans d1
      clear hdep hL hy hap hnw d1
      simp only [List.foldl, List.setIfInBounds_toArray, List.set_cons_succ, List.set_cons_zero, e1] at ha
      subst ha
      clear e1
      obtain ⟨_, c0, c1, c2, c3, _, _, _, _⟩ := HB.out.but hB (by simp)
      refine wpOp_step rfl (fun K hK => ?_)
      go_simp
      exact hK _ _ ⟨_, rfl, (fun h => by cases h), rfl, But.refl _ _, (fun h => by cases h)⟩
    · clear hiz
      cases ho
      intro act u hB hL hdep hap hnw
      replace hB := hB [] (fun j _ k hk => lb0_in j k hk)
      have d0 := hdep { on := 0, ground := .data } (by simp) rfl _ rfl
      have d2 := hdep { on := 2, ground := .data } (by simp) rfl _ rfl
      obtain ⟨ysl, ha, hy⟩ := hL.puts [3, 4, 5, 6, 7, 8, 9, 10, 11, 12, 13, 14, 15, 16, 17, 18, 19] (by kernel_rfl)
      obtain ⟨g0, h0⟩ := d0
      have e0 : ysl 3 = .slice (some ⟨g0, 0, none⟩) 0 0 := (hy 3).symm.trans h0
      have e2 : ysl 5 = _ := (hy 5).symm.trans d2
      clear hdep hL hy hap hnw d2 h0
      simp only [List.foldl, List.setIfInBounds_toArray, List.set_cons_succ, List.set_cons_zero, e0, e2] at ha
      subst ha
      clear e0 e2
      refine wpOp_step rfl (fun K hK => ?_)
      rw [if_pos (by simp [Region.wanted])]
      refine wp_append_new _ _ 22 rfl 3 i0 (.int .i64 0) Try.underlying22 hi hz0 hz1 hz2 _ rfl ⟨sM, oM, none⟩ _ _ (x.M.map (Value.int .i64)) rfl (by simp) (cells_of x.M (KM.out u (fr_but (L := []) HF.out hB (fun k hk => by cases hk)))) (ints_one _) (by have := HLM.out; omega) (by have := HLM.out; omega) ?_
      intro cp zs hzs
      refine hK _ _ ⟨_, rfl, (fun h => by cases h), ⟨_, cp, rfl, hB.size, ro_new u.drew x.M zs _⟩, But.of ((Below.drew (Below.refl _ _)).alloc (Nat.le_refl _) _), (fun _ p hp => by cases hp; exact ⟨Nat.le_refl _, by simp⟩)⟩
    · clear hiz
      cases ho
      intro act u hB hL hdep hap hnw
      replace hB := hB [] (fun j _ k hk => lb0_in j k hk)
      obtain ⟨ysl, ha, hy⟩ := hL.puts [3, 4, 5, 6, 7, 8, 9, 10, 11, 12, 13, 14, 15, 16, 17, 18, 19] (by kernel_rfl)
      clear hdep hL hy hap hnw
      simp only [List.foldl, List.setIfInBounds_toArray, List.set_cons_succ, List.set_cons_zero] at ha
      subst ha
      refine wpOp_step rfl (fun K hK => ?_)
      go_simp
      exact hK _ _ ⟨_, rfl, (fun h => by cases h), ⟨_, rfl⟩, But.of (Fr.alloc _ _), (fun h => by cases h)⟩
    · clear hiz
      cases ho
      intro act u hB hL hdep hap hnw
      replace hB := hB [] (fun j _ k hk => lb0_in j k hk)
      obtain ⟨ysl, ha, hy⟩ := hL.puts [3, 4, 5, 6, 7, 8, 9, 10, 11, 12, 13, 14, 15, 16, 17, 18, 19] (by kernel_rfl)
      clear hdep hL hy hap hnw
      simp only [List.foldl, List.setIfInBounds_toArray, List.set_cons_succ, List.set_cons_zero] at ha
      subst ha
      refine wpOp_step rfl (fun K hK => ?_)
      go_simp
      exact hK _ _ ⟨_, rfl, (fun h => by cases h), rfl, But.refl _ _, (fun h => by cases h)⟩
    · clear hiz
      cases ho
      intro act u hB hL hdep hap hnw
      replace hB := hB [] (fun j _ k hk => lb0_in j k hk)
      have d5 := hdep { on := 5, ground := .data } (by simp) rfl _ rfl
      obtain ⟨ysl, ha, hy⟩ := hL.puts [3, 4, 5, 6, 7, 8, 9, 10, 11, 12, 13, 14, 15, 16, 17, 18, 19] (by kernel_rfl)
      have e5 : ysl 8 = _ := (hy 8).symm.trans d5
      clear hdep hL hy hap hnw d5
      simp only [List.foldl, List.setIfInBounds_toArray, List.set_cons_succ, List.set_cons_zero, e5] at ha
      subst ha
      clear e5
      obtain ⟨_, c0, c1, c2, c3, _, _, _, _⟩ := HB.out.but hB (by simp)
      refine wpOp_step rfl (fun K hK => ?_)
      go_simp
      exact hK _ _ ⟨_, rfl, (fun h => by cases h), rfl, But.refl _ _, (fun h => by cases h)⟩
    · clear hiz
      cases ho
      intro act u hB hL hdep hap hnw
      replace hB := hB [] (fun j _ k hk => lb0_in j k hk)
      have d4 := hdep { on := 4, ground := .data } (by simp) rfl _ rfl
      have d6 := hdep { on := 6, ground := .data } (by simp) rfl _ rfl
      obtain ⟨ysl, ha, hy⟩ := hL.puts [3, 4, 5, 6, 7, 8, 9, 10, 11, 12, 13, 14, 15, 16, 17, 18, 19] (by kernel_rfl)
      obtain ⟨g4, h4⟩ := d4
      have e4 : ysl 7 = .slice (some ⟨g4, 0, none⟩) 0 0 := (hy 7).symm.trans h4
      have e6 : ysl 9 = _ := (hy 9).symm.trans d6
      clear hdep hL hy hap hnw d6 h4
      simp only [List.foldl, List.setIfInBounds_toArray, List.set_cons_succ, List.set_cons_zero, e4, e6] at ha
      subst ha
      clear e4 e6
      refine wpOp_step rfl (fun K hK => ?_)
      rw [if_pos (by simp [Region.wanted])]
      refine wp_append_zero _ _ 22 rfl 3 i0 Try.underlying22 hi _ 0 0 (Nat.le_refl _) rfl aF cF (by rw [← HLF.out]; rfl) ?_
      exact hK _ _ ⟨_, rfl, (fun h => by cases h), ⟨g4, rfl⟩, But.refl _ _, (fun h => by cases h)⟩
    · clear hiz
      cases ho
      intro act u hB hL hdep hap hnw
      replace hB := hB [] (fun j _ k hk => lb0_in j k hk)
      obtain ⟨ysl, ha, hy⟩ := hL.puts [3, 4, 5, 6, 7, 8, 9, 10, 11, 12, 13, 14, 15, 16, 17, 18, 19] (by kernel_rfl)
      clear hdep hL hy hap hnw
      simp only [List.foldl, List.setIfInBounds_toArray, List.set_cons_succ, List.set_cons_zero] at ha
      subst ha
      refine wpOp_step rfl (fun K hK => ?_)
      go_simp
      exact hK _ _ ⟨_, rfl, (fun h => by cases h), ⟨_, rfl⟩, But.of (Fr.alloc _ _), (fun h => by cases h)⟩
    · clear hiz
      cases ho
      intro act u hB hL hdep hap hnw
      replace hB := hB [] (fun j _ k hk => lb0_in j k hk)
      obtain ⟨ysl, ha, hy⟩ := hL.puts [3, 4, 5, 6, 7, 8, 9, 10, 11, 12, 13, 14, 15, 16, 17, 18, 19] (by kernel_rfl)
      clear hdep hL hy hap hnw
      simp only [List.foldl, List.setIfInBounds_toArray, List.set_cons_succ, List.set_cons_zero] at ha
      subst ha
      refine wpOp_step rfl (fun K hK => ?_)
      go_simp
      exact hK _ _ ⟨_, rfl, (fun h => by cases h), rfl, But.refl _ _, (fun h => by cases h)⟩
    · clear hiz
      cases ho
      intro act u hB hL hdep hap hnw
      replace hB := hB [] (fun j _ k hk => lb0_in j k hk)
      have d9 := hdep { on := 9, ground := .data } (by simp) rfl _ rfl
      obtain ⟨ysl, ha, hy⟩ := hL.puts [3, 4, 5, 6, 7, 8, 9, 10, 11, 12, 13, 14, 15, 16, 17, 18, 19] (by kernel_rfl)
      have e9 : ysl 12 = _ := (hy 12).symm.trans d9
      clear hdep hL hy hap hnw d9
      simp only [List.foldl, List.setIfInBounds_toArray, List.set_cons_succ, List.set_cons_zero, e9] at ha
      subst ha
      clear e9
      obtain ⟨_, c0, c1, c2, c3, _, _, _, _⟩ := HB.out.but hB (by simp)
      refine wpOp_step rfl (fun K hK => ?_)
      go_simp
      exact hK _ _ ⟨_, rfl, (fun h => by cases h), rfl, But.refl _ _, (fun h => by cases h)⟩
    · clear hiz
      cases ho
      intro act u hB hL hdep hap hnw
      replace hB := hB [] (fun j _ k hk => lb0_in j k hk)
      have d8 := hdep { on := 8, ground := .data } (by simp) rfl _ rfl
      have d10 := hdep { on := 10, ground := .data } (by simp) rfl _ rfl
      obtain ⟨ysl, ha, hy⟩ := hL.puts [3, 4, 5, 6, 7, 8, 9, 10, 11, 12, 13, 14, 15, 16, 17, 18, 19] (by kernel_rfl)
      obtain ⟨g8, h8⟩ := d8
      have e8 : ysl 11 = .slice (some ⟨g8, 0, none⟩) 0 0 := (hy 11).symm.trans h8
      have e10 : ysl 13 = _ := (hy 13).symm.trans d10
      clear hdep hL hy hap hnw d10 h8
      simp only [List.foldl, List.setIfInBounds_toArray, List.set_cons_succ, List.set_cons_zero, e8, e10] at ha
      subst ha
      clear e8 e10
      refine wpOp_step rfl (fun K hK => ?_)
      rw [if_pos (by simp [Region.wanted])]
      refine wp_append_new _ _ 22 rfl 3 i0 (.int .i64 0) Try.underlying22 hi hz0 hz1 hz2 _ rfl ⟨sV, oV, none⟩ _ _ (x.V.map (Value.int .i64)) rfl (by simp) (cells_of x.V (KV.out u (fr_but (L := []) HF.out hB (fun k hk => by cases hk)))) (ints_one _) (by have := HLV.out; omega) (by have := HLV.out; omega) ?_
      intro cp zs hzs
      refine hK _ _ ⟨_, rfl, (fun h => by cases h), ⟨_, cp, rfl, hB.size, ro_new u.drew x.V zs _⟩, But.of ((Below.drew (Below.refl _ _)).alloc (Nat.le_refl _) _), (fun _ p hp => by cases hp; exact ⟨Nat.le_refl _, by simp⟩)⟩
    · clear hiz
      cases ho
      intro act u hB hL hdep hap hnw
      replace hB := hB [] (fun j _ k hk => lb0_in j k hk)
      obtain ⟨ysl, ha, hy⟩ := hL.puts [3, 4, 5, 6, 7, 8, 9, 10, 11, 12, 13, 14, 15, 16, 17, 18, 19] (by kernel_rfl)
      clear hdep hL hy hap hnw
      simp only [List.foldl, List.setIfInBounds_toArray, List.set_cons_succ, List.set_cons_zero] at ha
      subst ha
      refine wpOp_step rfl (fun K hK => ?_)
      go_simp
      exact hK _ _ ⟨_, rfl, (fun h => by cases h), ⟨_, rfl⟩, But.of (Fr.alloc _ _), (fun h => by cases h)⟩
    · clear hiz
      cases ho
      intro act u hB hL hdep hap hnw
      replace hB := hB [] (fun j _ k hk => lb0_in j k hk)
      obtain ⟨ysl, ha, hy⟩ := hL.puts [3, 4, 5, 6, 7, 8, 9, 10, 11, 12, 13, 14, 15, 16, 17, 18, 19] (by kernel_rfl)
      clear hdep hL hy hap hnw
      simp only [List.foldl, List.setIfInBounds_toArray, List.set_cons_succ, List.set_cons_zero] at ha
      subst ha
      refine wpOp_step rfl (fun K hK => ?_)
      go_simp
      exact hK _ _ ⟨_, rfl, (fun h => by cases h), rfl, But.refl _ _, (fun h => by cases h)⟩
    · clear hiz
      cases ho
      intro act u hB hL hdep hap hnw
      replace hB := hB [] (fun j _ k hk => lb0_in j k hk)
      have d13 := hdep { on := 13, ground := .data } (by simp) rfl _ rfl
      obtain ⟨ysl, ha, hy⟩ := hL.puts [3, 4, 5, 6, 7, 8, 9, 10, 11, 12, 13, 14, 15, 16, 17, 18, 19] (by kernel_rfl)
      have e13 : ysl 16 = _ := (hy 16).symm.trans d13
      clear hdep hL hy hap hnw d13
      simp only [List.foldl, List.setIfInBounds_toArray, List.set_cons_succ, List.set_cons_zero, e13] at ha
      subst ha
      clear e13
      obtain ⟨_, c0, c1, c2, c3, _, _, _, _⟩ := HB.out.but hB (by simp)
      refine wpOp_step rfl (fun K hK => ?_)
      go_simp
      exact hK _ _ ⟨_, rfl, (fun h => by cases h), rfl, But.refl _ _, (fun h => by cases h)⟩
    · clear hiz
      cases ho
      intro act u hB hL hdep hap hnw
      replace hB := hB [] (fun j _ k hk => lb0_in j k hk)
      have d12 := hdep { on := 12, ground := .data } (by simp) rfl _ rfl
      have d14 := hdep { on := 14, ground := .data } (by simp) rfl _ rfl
      obtain ⟨ysl, ha, hy⟩ := hL.puts [3, 4, 5, 6, 7, 8, 9, 10, 11, 12, 13, 14, 15, 16, 17, 18, 19] (by kernel_rfl)
      obtain ⟨g12, h12⟩ := d12
      have e12 : ysl 15 = .slice (some ⟨g12, 0, none⟩) 0 0 := (hy 15).symm.trans h12
      have e14 : ysl 17 = _ := (hy 17).symm.trans d14
      clear hdep hL hy hap hnw d14 h12
      simp only [List.foldl, List.setIfInBounds_toArray, List.set_cons_succ, List.set_cons_zero, e12, e14] at ha
      subst ha
      clear e12 e14
      refine wpOp_step rfl (fun K hK => ?_)
      rw [if_pos (by simp [Region.wanted])]
      refine wp_append_newB _ _ 23 rfl 4 j0 (.bool false) Try.underlying23 hj hy0 hy1 hy2 _ rfl ⟨sH, oH, none⟩ _ _ (x.H.map Value.bool) rfl (by simp) (cells_ofB x.H (KH.out u (fr_but (L := []) HF.out hB (fun k hk => by cases hk)))) (bools_one _) (by have := HLH.out; omega) (by have := HLH.out; omega) ?_
      intro cp zs hzs
      refine hK _ _ ⟨_, rfl, (fun h => by cases h), ⟨_, cp, rfl, hB.size, rob_new u.drew x.H zs _⟩, But.of ((Below.drew (Below.refl _ _)).alloc (Nat.le_refl _) _), (fun _ p hp => by cases hp; exact ⟨Nat.le_refl _, by simp⟩)⟩
    · clear hiz
      cases ho
      intro act u hB hL hdep hap hnw
      replace hB := hB [] (fun j _ k hk => lb0_in j k hk)
      have d3 := hdep { on := 3, ground := .data } (by simp) rfl _ rfl
      have d7 := hdep { on := 7, ground := .data } (by simp) rfl _ rfl
      have d11 := hdep { on := 11, ground := .data } (by simp) rfl _ rfl
      have d15 := hdep { on := 15, ground := .data } (by simp) rfl _ rfl
      obtain ⟨ysl, ha, hy⟩ := hL.puts [3, 4, 5, 6, 7, 8, 9, 10, 11, 12, 13, 14, 15, 16, 17, 18, 19] (by kernel_rfl)
      obtain ⟨g3, c3, h3, b3, r3⟩ := d3
      have e3 : ysl 6 = .slice (some ⟨g3, 0, none⟩) x.M.length c3 := (hy 6).symm.trans h3
      obtain ⟨g7, h7⟩ := d7
      have e7 : ysl 10 = .slice (some ⟨g7, 0, none⟩) 0 0 := (hy 10).symm.trans h7
      obtain ⟨g11, c11, h11, b11, r11⟩ := d11
      have e11 : ysl 14 = .slice (some ⟨g11, 0, none⟩) x.V.length c11 := (hy 14).symm.trans h11
      obtain ⟨g15, c15, h15, b15, r15⟩ := d15
      have e15 : ysl 18 = .slice (some ⟨g15, 0, none⟩) x.H.length c15 := (hy 18).symm.trans h15
      have n311 := hap { on := 3, ground := .data } (by simp) { on := 11, ground := .data } (by simp) rfl rfl (by decide) rfl rfl _ _ rfl rfl g3 g11 (by rw [h3]; rfl) (by rw [h11]; rfl)
      have n315 := hap { on := 3, ground := .data } (by simp) { on := 15, ground := .data } (by simp) rfl rfl (by decide) rfl rfl _ _ rfl rfl g3 g15 (by rw [h3]; rfl) (by rw [h15]; rfl)
      have n1115 := hap { on := 11, ground := .data } (by simp) { on := 15, ground := .data } (by simp) rfl rfl (by decide) rfl rfl _ _ rfl rfl g11 g15 (by rw [h11]; rfl) (by rw [h15]; rfl)
      clear hdep hL hy hap hnw h3 h7 h11 h15
      simp only [List.foldl, List.setIfInBounds_toArray, List.set_cons_succ, List.set_cons_zero, e3, e7, e11, e15] at ha
      subst ha
      clear e3 e7 e11 e15
      refine wpOp_step rfl (fun K hK => ?_)
      go_simp
      exact hK _ _ ⟨_, rfl, (fun h => by cases h), ⟨g3, c3, g7, g11, c11, g15, c15, rfl, b3, b11, b15, r3, r11, r15, n311, n315, n1115⟩, But.refl _ _, (fun h => by cases h)⟩
    · exact absurd rfl hiz
    · exact absurd ho (by simp)
  case fin =>
    intro act u hB hL hsf hap hnw
    have d16 := hsf 16 _ rfl (by decide)
    obtain ⟨ysl, ha, hy⟩ := hL.puts [3, 4, 5, 6, 7, 8, 9, 10, 11, 12, 13, 14, 15, 16, 17, 18, 19] (by kernel_rfl)
    obtain ⟨g3, c3, g7, g11, c11, g15, c15, h16, b3, b11, b15, r3, r11, r15, n1, n2, n3⟩ := d16
    have e16 : ysl 19 = .agg #[.slice (some ⟨g3, 0, none⟩) x.M.length c3, .slice (some ⟨g7, 0, none⟩) 0 0, .slice (some ⟨g11, 0, none⟩) x.V.length c11, .slice (some ⟨g15, 0, none⟩) x.H.length c15] := (hy 19).symm.trans h16
    clear hL hsf hy hap hnw h16
    simp only [List.foldl, List.setIfInBounds_toArray, List.set_cons_succ, List.set_cons_zero, e16] at ha
    subst ha
    clear e16
    obtain ⟨_, z0, z1, z2, z3, zf0, zf1, zf2, zf3⟩ := HZ.out.but hB (by simp)
    refine wpOp_step rfl (fun K hK => ?_)
    go_simp
    refine hK _ _ ?_
    have Bn := (HZ.out.but hB (by simp)).set (.slice (some ⟨g3, 0, none⟩) x.M.length c3) (.slice (some ⟨g7, 0, none⟩) 0 0) (.slice (some ⟨g11, 0, none⟩) x.V.length c11) (.slice (some ⟨g15, 0, none⟩) x.H.length c15)
    have w0 := Bn.c0
    have w1 := Bn.c1
    have w2 := Bn.c2
    have w3 := Bn.c3
    have hst : But [w.heap.size + 1] u ((((u.setCell ⟨w.heap.size + 1, 0, none⟩ (.slice (some ⟨g3, 0, none⟩) x.M.length c3)).setCell ⟨w.heap.size + 1, 1, none⟩ (.slice (some ⟨g7, 0, none⟩) 0 0)).setCell ⟨w.heap.size + 1, 2, none⟩ (.slice (some ⟨g11, 0, none⟩) x.V.length c11)).setCell ⟨w.heap.size + 1, 3, none⟩ (.slice (some ⟨g15, 0, none⟩) x.H.length c15)) := (But.refl _ _).set4 _ _ _ _ _ (.inl (by simp))
    have HFin := Lib.hid (show Fr w _ from fr_but (fr_but (L := []) HF.out hB (fun k hk => by cases hk)) hst (fun k hk => by have := List.mem_singleton.1 hk; omega))
    have hus := HUS.out
    have HO := Lib.hid (show OwC w.heap.size _ x g3 (some ⟨g7, 0, none⟩) 0 g11 g15 from ⟨by omega, by omega, by omega, r3.but hst (by simp; omega), .inl ⟨HLF.out, rfl⟩, r11.but hst (by simp; omega), r15.but hst (by simp; omega), n1, n2, n3, fun g hg h0 => absurd h0 (by rw [HLF.out]; decide)⟩)
    clear Bn z0 z1 z2 z3 zf0 zf1 zf2 zf3 hst hB r3 r11 r15
    generalize ((((u.setCell ⟨w.heap.size + 1, 0, none⟩ (.slice (some ⟨g3, 0, none⟩) x.M.length c3)).setCell ⟨w.heap.size + 1, 1, none⟩ (.slice (some ⟨g7, 0, none⟩) 0 0)).setCell ⟨w.heap.size + 1, 2, none⟩ (.slice (some ⟨g11, 0, none⟩) x.V.length c11)).setCell ⟨w.heap.size + 1, 3, none⟩ (.slice (some ⟨g15, 0, none⟩) x.H.length c15)) = u9 at *
    go_wp2
    refine bodyPost_ret (v := .agg #[.slice (some ⟨g3, 0, none⟩) x.M.length c3, .slice (some ⟨g7, 0, none⟩) 0 0, .slice (some ⟨g11, 0, none⟩) x.V.length c11, .slice (some ⟨g15, 0, none⟩) x.H.length c15]) (by simp [results, Try.results66, go_sem, w0, w1, w2, w3]) rfl ?_
    exact ⟨g3, some ⟨g7, 0, none⟩, g11, g15, c3, 0, c11, c15, by rw [HLF.out], HO.out, HFin.out⟩
theorem spec_l6Copy (x : Nm) (aM aF aV aH : Option Addr) (cM cF cV cH : Nat) (w : World) (h : SrcN w x aM aF aV aH) (lM : x.M.length = 8) (lF : x.F.length ≤ 100) (lV : x.V.length = 20) (lH : x.H.length = 20) :
    Calls Try.prog 66 #[.agg #[.slice aM x.M.length cM, .slice aF x.F.length cF, .slice aV x.V.length cV, .slice aH x.H.length cH]] w (CpN x w) := by
  by_cases hp : 0 < x.F.length
  · exact spec_l6Copy_a x _ _ _ _ _ _ _ _ w h lM lF lV lH hp
  · exact spec_l6Copy_b x _ _ _ _ _ _ _ _ w h lM lF lV lH (by omega)

end Go.Proofs.Ytddllgjieccikaa
