/- The program's GueSeen. -/
import Derived.Test.YtpdlcjjmhcfkjaaDoorGc2
namespace Go.Proofs.YtpdlcjjmhcfkjaaDoor
open Go.RowKit
set_option linter.unusedVariables false
set_option linter.unusedSimpArgs false
def NrowO (B : Nat) (C : List Int) (v : Value) (u : World) : Prop := ∃ ao c, v = .slice ao C.length c ∧ Vo B u C.length (ivl C) ao
def gsSF (B b bI : Nat) (x : Gu) (C' : List Int) (aS aC : Option Addr) (cS cC : Nat) (pc k d a b' f n : Int) : Nat → Value → World → Prop
  | 0, v, _ => v = .pointer (some ⟨b, 0, none⟩)
  | 1, v, _ => v = .slice aS x.S.length cS
  | 2, v, u => ∃ g c, v = .slice (some ⟨g, 0, none⟩) x.S.length c ∧ B ≤ g ∧ Ro4 u g x.S
  | 3, v, _ => v = .pointer (some ⟨b, 1, none⟩)
  | 4, v, _ => v = .slice aC x.C.length cC
  | 5, v, _ => v = .int .i64 pc
  | 6, v, _ => v = .agg #[.int .i64 k, .int .i64 d, .int .i64 a, .int .i64 b', .int .i64 f, .int .i64 n]
  | 7, v, u => ∃ ao c, v = .slice ao C'.length c ∧ Vo B u C'.length (ivl C') ao
  | 8, v, u => ∃ g c1 ao c2, v = .agg #[.slice (some ⟨g, 0, none⟩) x.S.length c1, .slice ao C'.length c2] ∧ B ≤ g ∧ Ro4 u g x.S ∧ Vo B u C'.length (ivl C') ao ∧ (0 < C'.length → ∀ q, ao = some q → g ≠ q.block)
  | _, _, _ => True
set_option maxRecDepth 8000 in
set_option maxHeartbeats 4000000 in
theorem impl_GueSeen_a (x : Gu) (aS aC : Option Addr) (cS cC : Nat) (pc m : Int) (w : World) (hT : Tabs w) (h : Src4 w x.S aS) (hc : Src w x.C.length (ivl x.C) aC) (ho : OkG x) (hp : okB pc = true) (hm : okB m = true) (hn0 : 0 < (seenC x.C pc (rI m (m / 4096)) (rI m (rdv m 0))).length) :
    Calls Tryd.prog 14 #[.agg #[.slice aS x.S.length cS, .slice aC x.C.length cC], .int .i64 pc, .int .i64 m] w (GuO (seenG x pc m) w) := by
  have ER := fun w (ht : Tabs w) => impl_CodRead m w ht
  simp only [rV] at ER
  have HS := Lib.hid h
  have HC := Lib.hid hc
  have HO := Lib.hid ho
  have HTb := Lib.hid hT
  have HBD := Lib.hid (okB_true hp)
  unfold seenG
  generalize rI m (m / 4096) = k at *
  generalize rI m (rdv m 0) = d at *
  generalize rI m (rdv m 4) = n at *
  generalize rI m (rdv m 1) = a at *
  generalize rI m (rdv m 2) = b at *
  generalize rI m (rdv m 3) = f at *
  generalize gd m = gm at *
  have HN0 := Lib.hid hn0
  have HER := Lib.hid ER
  have F2 : Fr w ((w.alloc (.cells #[.slice aS x.S.length cS, .slice aC x.C.length cC] 30)).alloc (.cells #[.slice none 0 0, .slice none 0 0] 30)) := by
    (repeat' first | (with_reducible exact Below.refl _ _) | (with_reducible assumption) | ((with_reducible refine Below.setCell ?_ ?hb _); (case hb => first | exact Nat.le_refl _ | (simp; done) | (simp; omega) | omega)) | ((with_reducible refine Below.alloc ?_ ?hb _); (case hb => first | exact Nat.le_refl _ | (simp; done) | (simp; omega) | omega)) | (with_reducible refine Below.drew ?_))
  have HF2 := Lib.hid F2
  have HB2 := Lib.hid ((Box2.new w (.slice aS x.S.length cS) (.slice aC x.C.length cC) 30 _ rfl).fr (Fr.alloc _ (.cells #[.slice none 0 0, .slice none 0 0] 30)))
  have HZ2 := Lib.hid (Box2.new (w.alloc (.cells #[.slice aS x.S.length cS, .slice aC x.C.length cC] 30)) (.slice none 0 0) (.slice none 0 0) 30 (w.heap.size + 1) (by simp))
  have HS2 := Lib.hid (show ((w.alloc (.cells #[.slice aS x.S.length cS, .slice aC x.C.length cC] 30)).alloc (.cells #[.slice none 0 0, .slice none 0 0] 30)).heap.size = w.heap.size + 2 by simp)
  have E1 := impl_GueOk x aS aC cS cC _ (h.fr F2) (hc.fr F2) (by have := ho.Sl; omega) (by have := ho.Cl; omega)
  rw [(okG_iff x).2 ho] at E1
  have W1 := fun w => impl_WrdOk pc w
  have W2 := fun w => impl_WrdOk m w
  rw [hp] at W1
  rw [hm] at W2
  have HE1 := Lib.hid E1
  have HW1 := Lib.hid W1
  have HW2 := Lib.hid W2
  clear ER E1 W1 W2 h hc ho hT hp hm F2 hn0
  go_enter Tryd.func14, Tryd.ntmps14
  go_upto_region 1 with fail
  generalize ((w.alloc (.cells #[.slice aS x.S.length cS, .slice aC x.C.length cC] 30)).alloc (.cells #[.slice none 0 0, .slice none 0 0] 30)) = u2 at *
  obtain ⟨_, c0, c1, _, _⟩ := HB2.out
  go_wp2_with fail
  refine HE1.out.mono ?_
  rintro e u3 ⟨rfl, f3⟩
  have HF3 := Lib.hid (HF2.out.trans f3)
  have HB3 := Lib.hid (HB2.out.fr f3)
  have HZ3 := Lib.hid (HZ2.out.fr f3)
  have hs3 : w.heap.size + 2 ≤ u3.heap.size := by have := HS2.out; have := f3.size; omega
  clear HF2 HB2 HZ2 HS2 f3 c0 c1 HE1
  go_wp2_with fail
  refine (HW1.out _).mono ?_
  rintro e u3' ⟨rfl, rfl⟩
  go_wp2_with fail
  refine (HW2.out _).mono ?_
  rintro e u3' ⟨rfl, rfl⟩
  go_wp2_with fail
  refine (HER.out _ (HTb.out.fr HF3.out)).mono ?_
  rintro e u4 ⟨rfl, f4⟩
  have HF4 := Lib.hid (HF3.out.trans f4)
  have HB4 := Lib.hid (HB3.out.fr f4)
  have HZ4 := Lib.hid (HZ3.out.fr f4)
  have hs4 : w.heap.size + 2 ≤ u4.heap.size := by have := f4.size; omega
  clear HF3 HB3 HZ3 f4 HER HW1 HW2
  go_upto_region 4 with fail
  have FA := Fr.alloc u4 (.cells #[.int .i64 k, .int .i64 d, .int .i64 a, .int .i64 b, .int .i64 f, .int .i64 n] 43)
  have HI : Hid (Box (u4.alloc (.cells #[.int .i64 k, .int .i64 d, .int .i64 a, .int .i64 b, .int .i64 f, .int .i64 n] 43)) u4.heap.size k d a b f n) := Lib.hid ⟨(alloc_at u4 _ _ _ rfl 0).1, (alloc_at u4 _ _ _ rfl 1).1, (alloc_at u4 _ _ _ rfl 2).1, (alloc_at u4 _ _ _ rfl 3).1, (alloc_at u4 _ _ _ rfl 4).1, (alloc_at u4 _ _ _ rfl 5).1⟩
  have HF := Lib.hid (HF4.out.trans FA)
  have HB := Lib.hid (HB4.out.fr FA)
  have HZ := Lib.hid (HZ4.out.fr FA)
  have hs0 := FA.size
  clear HF4 HB4 HZ4 FA
  generalize (u4.alloc (.cells #[.int .i64 k, .int .i64 d, .int .i64 a, .int .i64 b, .int .i64 f, .int .i64 n] 43)) = u0 at *
  refine wp_region_rows 37 9 [] (fun _ => []) lb0_in (fun i => i == 2 || i == 7) (gsSF u0.heap.size w.heap.size 0 x (seenC x.C pc k d) aS aC cS cC pc k d a b f n) ?mono (by kernel_rfl) (by kernel_rfl) rfl (by kernel_rfl) (by kernel_rfl) (by decide) ?step ?fin
  case mono =>
    intro i j v u u' hi hij hdj hsz h hB
    rcases j with _ | _ | _ | _ | _ | _ | _ | _ | _ | j
    · exact h
    · exact h
    · obtain ⟨g, c, e, hb, r⟩ := h
      exact ⟨g, c, e, hb, r.but hB (by simp)⟩
    · exact h
    · exact h
    · exact h
    · exact h
    · obtain ⟨ao, c, e, r⟩ := h
      exact ⟨ao, c, e, r.but' hB (fun k _ => by simp)⟩
    · obtain ⟨g, c1, ao, c2, e, h1, h2, h3, h4⟩ := h
      exact ⟨g, c1, ao, c2, e, h1, h2.but hB (by simp), h3.but' hB (fun k _ => by simp), h4⟩
    · trivial
  case step =>
    intro i o ho hiz
    rcases i with _ | _ | _ | _ | _ | _ | _ | _ | _ | _ | i
    · clear hiz
      cases ho
      intro act u hB hL hdep hap hnw
      replace hB := hB [] (fun j _ k hk => lb0_in j k hk)
      obtain ⟨ysl, ha, hy⟩ := hL.puts [28, 29, 30, 31, 32, 33, 34, 35, 36] (by kernel_rfl)
      clear hdep hL hy hap hnw
      simp only [List.foldl, List.setIfInBounds_toArray, List.set_cons_succ, List.set_cons_zero] at ha
      subst ha
      refine wpOp_step rfl (fun K hK => ?_)
      go_simp
      exact hK _ _ ⟨_, rfl, (fun h => by cases h), rfl, But.refl _ _, (fun h => by cases h)⟩
    · clear hiz
      cases ho
      intro act u hB hL hdep hap hnw
      replace hB := hB [] (fun j _ k hk => lb0_in j k hk)
      have d0 := hdep { on := 0, ground := .data } (by simp) rfl _ rfl
      obtain ⟨ysl, ha, hy⟩ := hL.puts [28, 29, 30, 31, 32, 33, 34, 35, 36] (by kernel_rfl)
      have e0 : ysl 28 = _ := (hy 28).symm.trans d0
      clear hdep hL hy hap hnw d0
      simp only [List.foldl, List.setIfInBounds_toArray, List.set_cons_succ, List.set_cons_zero, e0] at ha
      subst ha
      clear e0
      obtain ⟨_, c0, c1, _, _⟩ := HB.out.but hB (by simp)
      refine wpOp_step rfl (fun K hK => ?_)
      go_simp
      exact hK _ _ ⟨_, rfl, (fun h => by cases h), rfl, But.refl _ _, (fun h => by cases h)⟩
    · clear hiz
      cases ho
      intro act u hB hL hdep hap hnw
      replace hB := hB [] (fun j _ k hk => lb0_in j k hk)
      have d1 := hdep { on := 1, ground := .data } (by simp) rfl _ rfl
      obtain ⟨ysl, ha, hy⟩ := hL.puts [28, 29, 30, 31, 32, 33, 34, 35, 36] (by kernel_rfl)
      have e1 : ysl 29 = _ := (hy 29).symm.trans d1
      clear hdep hL hy hap hnw d1
      simp only [List.foldl, List.setIfInBounds_toArray, List.set_cons_succ, List.set_cons_zero, e1] at ha
      subst ha
      clear e1
      refine wpOp_step rfl (fun K hK => ?_)
      go_simp
      refine (slices_CloneS x.S aS cS u (HS.out.fr (fr_but HF.out hB (fun k hk => by cases hk))) HO.out.Sl).mono ?_
      rintro e u' ⟨g, c, rfl, hg, r, f⟩
      go_simp
      exact hK _ _ ⟨_, rfl, (fun h => by cases h), ⟨g, c, rfl, Nat.le_trans hB.size hg, r⟩, But.of f, (fun _ p hp => by cases hp; exact ⟨hg, r.lt⟩)⟩
    · clear hiz
      cases ho
      intro act u hB hL hdep hap hnw
      replace hB := hB [] (fun j _ k hk => lb0_in j k hk)
      obtain ⟨ysl, ha, hy⟩ := hL.puts [28, 29, 30, 31, 32, 33, 34, 35, 36] (by kernel_rfl)
      clear hdep hL hy hap hnw
      simp only [List.foldl, List.setIfInBounds_toArray, List.set_cons_succ, List.set_cons_zero] at ha
      subst ha
      refine wpOp_step rfl (fun K hK => ?_)
      go_simp
      exact hK _ _ ⟨_, rfl, (fun h => by cases h), rfl, But.refl _ _, (fun h => by cases h)⟩
    · clear hiz
      cases ho
      intro act u hB hL hdep hap hnw
      replace hB := hB [] (fun j _ k hk => lb0_in j k hk)
      have d3 := hdep { on := 3, ground := .data } (by simp) rfl _ rfl
      obtain ⟨ysl, ha, hy⟩ := hL.puts [28, 29, 30, 31, 32, 33, 34, 35, 36] (by kernel_rfl)
      have e3 : ysl 31 = _ := (hy 31).symm.trans d3
      clear hdep hL hy hap hnw d3
      simp only [List.foldl, List.setIfInBounds_toArray, List.set_cons_succ, List.set_cons_zero, e3] at ha
      subst ha
      clear e3
      obtain ⟨_, c0, c1, _, _⟩ := HB.out.but hB (by simp)
      refine wpOp_step rfl (fun K hK => ?_)
      go_simp
      exact hK _ _ ⟨_, rfl, (fun h => by cases h), rfl, But.refl _ _, (fun h => by cases h)⟩
    · clear hiz
      cases ho
      intro act u hB hL hdep hap hnw
      replace hB := hB [] (fun j _ k hk => lb0_in j k hk)
      obtain ⟨ysl, ha, hy⟩ := hL.puts [28, 29, 30, 31, 32, 33, 34, 35, 36] (by kernel_rfl)
      clear hdep hL hy hap hnw
      simp only [List.foldl, List.setIfInBounds_toArray, List.set_cons_succ, List.set_cons_zero] at ha
      subst ha
      refine wpOp_step rfl (fun K hK => ?_)
      go_simp
      exact hK _ _ ⟨_, rfl, (fun h => by cases h), rfl, But.refl _ _, (fun h => by cases h)⟩
    · clear hiz
      cases ho
      intro act u hB hL hdep hap hnw
      replace hB := hB [] (fun j _ k hk => lb0_in j k hk)
      obtain ⟨ysl, ha, hy⟩ := hL.puts [28, 29, 30, 31, 32, 33, 34, 35, 36] (by kernel_rfl)
      clear hdep hL hy hap hnw
      simp only [List.foldl, List.setIfInBounds_toArray, List.set_cons_succ, List.set_cons_zero] at ha
      subst ha
      have hIf : Fr u0 u := fr_but (L := []) (Below.refl u0.heap.size u0) hB (fun k hk => by cases hk)
      obtain ⟨i0, i1, i2, i3, i4, i5⟩ := HI.out.frk hIf
      refine wpOp_step rfl (fun K hK => ?_)
      go_simp
      exact hK _ _ ⟨_, rfl, (fun h => by cases h), rfl, But.refl _ _, (fun h => by cases h)⟩
    · clear hiz
      cases ho
      intro act u hB hL hdep hap hnw
      replace hB := hB [] (fun j _ k hk => lb0_in j k hk)
      have d4 := hdep { on := 4, ground := .data } (by simp) rfl _ rfl
      have d5 := hdep { on := 5, ground := .data } (by simp) rfl _ rfl
      have d6 := hdep { on := 6, ground := .data } (by simp) rfl _ rfl
      obtain ⟨ysl, ha, hy⟩ := hL.puts [28, 29, 30, 31, 32, 33, 34, 35, 36] (by kernel_rfl)
      have e4 : ysl 32 = _ := (hy 32).symm.trans d4
      have e5 : ysl 33 = _ := (hy 33).symm.trans d5
      have e6 : ysl 34 = _ := (hy 34).symm.trans d6
      clear hdep hL hy hap hnw d4 d5 d6
      simp only [List.foldl, List.setIfInBounds_toArray, List.set_cons_succ, List.set_cons_zero, e4, e5, e6] at ha
      subst ha
      clear e4 e5 e6
      refine wpOp_step rfl (fun K hK => ?_)
      go_simp
      refine (impl_callsAfter x.C aC cC pc k d a b f n u (HC.out.fr (fr_but HF.out hB (fun k hk => by cases hk))) HO.out.Cl HBD.out.1 HBD.out.2).mono ?_
      rintro e u' ⟨ao, c, rfl, v, f⟩
      go_simp
      exact hK _ _ ⟨_, rfl, (fun h => by cases h), ⟨ao, c, rfl, v.mono hB.size⟩, But.of f, (fun _ p hp => by
        obtain ⟨g9, o9, e9, hb9, hl9, _⟩ := v.at0 HN0.out
        subst e9
        cases hp
        exact ⟨hb9, hl9⟩)⟩
    · clear hiz
      cases ho
      intro act u hB hL hdep hap hnw
      replace hB := hB [] (fun j _ k hk => lb0_in j k hk)
      have d2 := hdep { on := 2, ground := .data } (by simp) rfl _ rfl
      have d7 := hdep { on := 7, ground := .data } (by simp) rfl _ rfl
      obtain ⟨ysl, ha, hy⟩ := hL.puts [28, 29, 30, 31, 32, 33, 34, 35, 36] (by kernel_rfl)
      obtain ⟨g2, c2, h2, hB2, r2⟩ := d2
      have e2 : ysl 30 = .slice (some ⟨g2, 0, none⟩) x.S.length c2 := (hy 30).symm.trans h2
      obtain ⟨ao7, c7, h7, v7⟩ := d7
      have e7 : ysl 35 = .slice ao7 (seenC x.C pc k d).length c7 := (hy 35).symm.trans h7
      have ne1 : 0 < (seenC x.C pc k d).length → ∀ q, ao7 = some q → g2 ≠ q.block := fun h0 q hq => hap { on := 2, ground := .data } (by simp) { on := 7, ground := .data } (by simp) rfl rfl (by decide) rfl rfl _ _ rfl rfl g2 q.block (by rw [h2]; rfl) (by rw [h7, hq]; rfl)
      clear hdep hL hy hap hnw h2 h7
      simp only [List.foldl, List.setIfInBounds_toArray, List.set_cons_succ, List.set_cons_zero, e2, e7] at ha
      subst ha
      clear e2 e7
      refine wpOp_step rfl (fun K hK => ?_)
      go_simp
      exact hK _ _ ⟨_, rfl, (fun h => by cases h), ⟨g2, c2, ao7, c7, rfl, hB2, r2, v7, ne1⟩, But.refl _ _, (fun h => by cases h)⟩
    · exact absurd rfl hiz
    · exact absurd ho (by simp)
  case fin =>
    intro act u hB hL hsf hap hnw
    have d8 := hsf 8 _ rfl (by decide)
    obtain ⟨ysl, ha, hy⟩ := hL.puts [28, 29, 30, 31, 32, 33, 34, 35, 36] (by kernel_rfl)
    obtain ⟨g8, c8a, ao8, c8b, h8, hB8, r8, v8, ap8⟩ := d8
    have e8 : ysl 36 = .agg #[.slice (some ⟨g8, 0, none⟩) x.S.length c8a, .slice ao8 (seenC x.C pc k d).length c8b] := (hy 36).symm.trans h8
    clear hL hsf hy hap hnw h8
    simp only [List.foldl, List.setIfInBounds_toArray, List.set_cons_succ, List.set_cons_zero, e8] at ha
    subst ha
    clear e8
    have Bz := HZ.out.but hB (by simp)
    have Bz0 := Bz
    obtain ⟨lt, c0, z0c, f0, f1⟩ := Bz0
    refine wpOp_step rfl (fun K hK => ?_)
    go_simp
    refine hK _ _ ?_
    have Bn := Bz.set (.slice (some ⟨g8, 0, none⟩) x.S.length c8a) (.slice ao8 (seenC x.C pc k d).length c8b)
    have z0 := Bn.c0
    have z1 := Bn.c1
    have hst : But [w.heap.size + 1] u ((u.setCell ⟨w.heap.size + 1, 0, none⟩ (.slice (some ⟨g8, 0, none⟩) x.S.length c8a)).setCell ⟨w.heap.size + 1, 1, none⟩ (.slice ao8 (seenC x.C pc k d).length c8b)) := (But.refl _ _).set2 (w.heap.size + 1) _ _ (.inl (by simp))
    have HFin := Lib.hid (show Fr w _ from fr_but (fr_but HF.out hB (fun k hk => by cases hk)) hst (fun k hk => by have := List.mem_singleton.1 hk; omega))
    have HOq := Lib.hid (r8.but hst (by simp <;> omega))
    have HV8 := Lib.hid (v8.but' hst (fun k hk hm => by
      obtain ⟨p0, q, e, rfl⟩ := mem_bkS hk
      have h9 := List.mem_singleton.1 hm
      obtain ⟨g9, o9, e9, hb9, _⟩ := v8.at0 p0
      rw [e] at e9
      cases e9
      have : g9 = w.heap.size + 1 := h9
      omega))
    clear Bn Bz c0 z0c f0 f1 hst r8 v8
    generalize ((u.setCell ⟨w.heap.size + 1, 0, none⟩ (.slice (some ⟨g8, 0, none⟩) x.S.length c8a)).setCell ⟨w.heap.size + 1, 1, none⟩ (.slice ao8 (seenC x.C pc k d).length c8b)) = u9 at *
    go_wp2
    refine bodyPost_ret (v := .agg #[.slice (some ⟨g8, 0, none⟩) x.S.length c8a, .slice ao8 (seenC x.C pc k d).length c8b]) (by simp [results, Tryd.results14, go_sem, z0, z1]) rfl ?_
    exact ⟨_, ao8, c8a, c8b, rfl, ⟨HOq.out.vc (by omega), HV8.out.mono (by omega), fun _ h0 p q hp hq => by cases hp; exact ap8 h0 q hq⟩, HFin.out⟩
set_option maxRecDepth 8000 in
set_option maxHeartbeats 4000000 in
theorem impl_GueSeen_b (x : Gu) (aS aC : Option Addr) (cS cC : Nat) (pc m : Int) (w : World) (hT : Tabs w) (h : Src4 w x.S aS) (hc : Src w x.C.length (ivl x.C) aC) (ho : OkG x) (hp : okB pc = true) (hm : okB m = true) (hn0 : (seenC x.C pc (rI m (m / 4096)) (rI m (rdv m 0))).length = 0) :
    Calls Tryd.prog 14 #[.agg #[.slice aS x.S.length cS, .slice aC x.C.length cC], .int .i64 pc, .int .i64 m] w (GuO (seenG x pc m) w) := by
  have ER := fun w (ht : Tabs w) => impl_CodRead m w ht
  simp only [rV] at ER
  have HS := Lib.hid h
  have HC := Lib.hid hc
  have HO := Lib.hid ho
  have HTb := Lib.hid hT
  have HBD := Lib.hid (okB_true hp)
  unfold seenG
  generalize rI m (m / 4096) = k at *
  generalize rI m (rdv m 0) = d at *
  generalize rI m (rdv m 4) = n at *
  generalize rI m (rdv m 1) = a at *
  generalize rI m (rdv m 2) = b at *
  generalize rI m (rdv m 3) = f at *
  generalize gd m = gm at *
  have HN0 := Lib.hid hn0
  have HER := Lib.hid ER
  have F2 : Fr w ((w.alloc (.cells #[.slice aS x.S.length cS, .slice aC x.C.length cC] 30)).alloc (.cells #[.slice none 0 0, .slice none 0 0] 30)) := by
    (repeat' first | (with_reducible exact Below.refl _ _) | (with_reducible assumption) | ((with_reducible refine Below.setCell ?_ ?hb _); (case hb => first | exact Nat.le_refl _ | (simp; done) | (simp; omega) | omega)) | ((with_reducible refine Below.alloc ?_ ?hb _); (case hb => first | exact Nat.le_refl _ | (simp; done) | (simp; omega) | omega)) | (with_reducible refine Below.drew ?_))
  have HF2 := Lib.hid F2
  have HB2 := Lib.hid ((Box2.new w (.slice aS x.S.length cS) (.slice aC x.C.length cC) 30 _ rfl).fr (Fr.alloc _ (.cells #[.slice none 0 0, .slice none 0 0] 30)))
  have HZ2 := Lib.hid (Box2.new (w.alloc (.cells #[.slice aS x.S.length cS, .slice aC x.C.length cC] 30)) (.slice none 0 0) (.slice none 0 0) 30 (w.heap.size + 1) (by simp))
  have HS2 := Lib.hid (show ((w.alloc (.cells #[.slice aS x.S.length cS, .slice aC x.C.length cC] 30)).alloc (.cells #[.slice none 0 0, .slice none 0 0] 30)).heap.size = w.heap.size + 2 by simp)
  have E1 := impl_GueOk x aS aC cS cC _ (h.fr F2) (hc.fr F2) (by have := ho.Sl; omega) (by have := ho.Cl; omega)
  rw [(okG_iff x).2 ho] at E1
  have W1 := fun w => impl_WrdOk pc w
  have W2 := fun w => impl_WrdOk m w
  rw [hp] at W1
  rw [hm] at W2
  have HE1 := Lib.hid E1
  have HW1 := Lib.hid W1
  have HW2 := Lib.hid W2
  clear ER E1 W1 W2 h hc ho hT hp hm F2 hn0
  go_enter Tryd.func14, Tryd.ntmps14
  go_upto_region 1 with fail
  generalize ((w.alloc (.cells #[.slice aS x.S.length cS, .slice aC x.C.length cC] 30)).alloc (.cells #[.slice none 0 0, .slice none 0 0] 30)) = u2 at *
  obtain ⟨_, c0, c1, _, _⟩ := HB2.out
  go_wp2_with fail
  refine HE1.out.mono ?_
  rintro e u3 ⟨rfl, f3⟩
  have HF3 := Lib.hid (HF2.out.trans f3)
  have HB3 := Lib.hid (HB2.out.fr f3)
  have HZ3 := Lib.hid (HZ2.out.fr f3)
  have hs3 : w.heap.size + 2 ≤ u3.heap.size := by have := HS2.out; have := f3.size; omega
  clear HF2 HB2 HZ2 HS2 f3 c0 c1 HE1
  go_wp2_with fail
  refine (HW1.out _).mono ?_
  rintro e u3' ⟨rfl, rfl⟩
  go_wp2_with fail
  refine (HW2.out _).mono ?_
  rintro e u3' ⟨rfl, rfl⟩
  go_wp2_with fail
  refine (HER.out _ (HTb.out.fr HF3.out)).mono ?_
  rintro e u4 ⟨rfl, f4⟩
  have HF4 := Lib.hid (HF3.out.trans f4)
  have HB4 := Lib.hid (HB3.out.fr f4)
  have HZ4 := Lib.hid (HZ3.out.fr f4)
  have hs4 : w.heap.size + 2 ≤ u4.heap.size := by have := f4.size; omega
  clear HF3 HB3 HZ3 f4 HER HW1 HW2
  go_upto_region 4 with fail
  have FA := Fr.alloc u4 (.cells #[.int .i64 k, .int .i64 d, .int .i64 a, .int .i64 b, .int .i64 f, .int .i64 n] 43)
  have HI : Hid (Box (u4.alloc (.cells #[.int .i64 k, .int .i64 d, .int .i64 a, .int .i64 b, .int .i64 f, .int .i64 n] 43)) u4.heap.size k d a b f n) := Lib.hid ⟨(alloc_at u4 _ _ _ rfl 0).1, (alloc_at u4 _ _ _ rfl 1).1, (alloc_at u4 _ _ _ rfl 2).1, (alloc_at u4 _ _ _ rfl 3).1, (alloc_at u4 _ _ _ rfl 4).1, (alloc_at u4 _ _ _ rfl 5).1⟩
  have HF := Lib.hid (HF4.out.trans FA)
  have HB := Lib.hid (HB4.out.fr FA)
  have HZ := Lib.hid (HZ4.out.fr FA)
  have hs0 := FA.size
  clear HF4 HB4 HZ4 FA
  generalize (u4.alloc (.cells #[.int .i64 k, .int .i64 d, .int .i64 a, .int .i64 b, .int .i64 f, .int .i64 n] 43)) = u0 at *
  refine wp_region_rows 37 9 [] (fun _ => []) lb0_in (fun i => i == 2) (gsSF u0.heap.size w.heap.size 0 x (seenC x.C pc k d) aS aC cS cC pc k d a b f n) ?mono (by kernel_rfl) (by kernel_rfl) rfl (by kernel_rfl) (by kernel_rfl) (by decide) ?step ?fin
  case mono =>
    intro i j v u u' hi hij hdj hsz h hB
    rcases j with _ | _ | _ | _ | _ | _ | _ | _ | _ | j
    · exact h
    · exact h
    · obtain ⟨g, c, e, hb, r⟩ := h
      exact ⟨g, c, e, hb, r.but hB (by simp)⟩
    · exact h
    · exact h
    · exact h
    · exact h
    · obtain ⟨ao, c, e, r⟩ := h
      exact ⟨ao, c, e, r.but' hB (fun k _ => by simp)⟩
    · obtain ⟨g, c1, ao, c2, e, h1, h2, h3, h4⟩ := h
      exact ⟨g, c1, ao, c2, e, h1, h2.but hB (by simp), h3.but' hB (fun k _ => by simp), h4⟩
    · trivial
  case step =>
    intro i o ho hiz
    rcases i with _ | _ | _ | _ | _ | _ | _ | _ | _ | _ | i
    · clear hiz
      cases ho
      intro act u hB hL hdep hap hnw
      replace hB := hB [] (fun j _ k hk => lb0_in j k hk)
      obtain ⟨ysl, ha, hy⟩ := hL.puts [28, 29, 30, 31, 32, 33, 34, 35, 36] (by kernel_rfl)
      clear hdep hL hy hap hnw
      simp only [List.foldl, List.setIfInBounds_toArray, List.set_cons_succ, List.set_cons_zero] at ha
      subst ha
      refine wpOp_step rfl (fun K hK => ?_)
      go_simp
      exact hK _ _ ⟨_, rfl, (fun h => by cases h), rfl, But.refl _ _, (fun h => by cases h)⟩
    · clear hiz
      cases ho
      intro act u hB hL hdep hap hnw
      replace hB := hB [] (fun j _ k hk => lb0_in j k hk)
      have d0 := hdep { on := 0, ground := .data } (by simp) rfl _ rfl
      obtain ⟨ysl, ha, hy⟩ := hL.puts [28, 29, 30, 31, 32, 33, 34, 35, 36] (by kernel_rfl)
      have e0 : ysl 28 = _ := (hy 28).symm.trans d0
      clear hdep hL hy hap hnw d0
      simp only [List.foldl, List.setIfInBounds_toArray, List.set_cons_succ, List.set_cons_zero, e0] at ha
      subst ha
      clear e0
      obtain ⟨_, c0, c1, _, _⟩ := HB.out.but hB (by simp)
      refine wpOp_step rfl (fun K hK => ?_)
      go_simp
      exact hK _ _ ⟨_, rfl, (fun h => by cases h), rfl, But.refl _ _, (fun h => by cases h)⟩
    · clear hiz
      cases ho
      intro act u hB hL hdep hap hnw
      replace hB := hB [] (fun j _ k hk => lb0_in j k hk)
      have d1 := hdep { on := 1, ground := .data } (by simp) rfl _ rfl
      obtain ⟨ysl, ha, hy⟩ := hL.puts [28, 29, 30, 31, 32, 33, 34, 35, 36] (by kernel_rfl)
      have e1 : ysl 29 = _ := (hy 29).symm.trans d1
      clear hdep hL hy hap hnw d1
      simp only [List.foldl, List.setIfInBounds_toArray, List.set_cons_succ, List.set_cons_zero, e1] at ha
      subst ha
      clear e1
      refine wpOp_step rfl (fun K hK => ?_)
      go_simp
      refine (slices_CloneS x.S aS cS u (HS.out.fr (fr_but HF.out hB (fun k hk => by cases hk))) HO.out.Sl).mono ?_
      rintro e u' ⟨g, c, rfl, hg, r, f⟩
      go_simp
      exact hK _ _ ⟨_, rfl, (fun h => by cases h), ⟨g, c, rfl, Nat.le_trans hB.size hg, r⟩, But.of f, (fun _ p hp => by cases hp; exact ⟨hg, r.lt⟩)⟩
    · clear hiz
      cases ho
      intro act u hB hL hdep hap hnw
      replace hB := hB [] (fun j _ k hk => lb0_in j k hk)
      obtain ⟨ysl, ha, hy⟩ := hL.puts [28, 29, 30, 31, 32, 33, 34, 35, 36] (by kernel_rfl)
      clear hdep hL hy hap hnw
      simp only [List.foldl, List.setIfInBounds_toArray, List.set_cons_succ, List.set_cons_zero] at ha
      subst ha
      refine wpOp_step rfl (fun K hK => ?_)
      go_simp
      exact hK _ _ ⟨_, rfl, (fun h => by cases h), rfl, But.refl _ _, (fun h => by cases h)⟩
    · clear hiz
      cases ho
      intro act u hB hL hdep hap hnw
      replace hB := hB [] (fun j _ k hk => lb0_in j k hk)
      have d3 := hdep { on := 3, ground := .data } (by simp) rfl _ rfl
      obtain ⟨ysl, ha, hy⟩ := hL.puts [28, 29, 30, 31, 32, 33, 34, 35, 36] (by kernel_rfl)
      have e3 : ysl 31 = _ := (hy 31).symm.trans d3
      clear hdep hL hy hap hnw d3
      simp only [List.foldl, List.setIfInBounds_toArray, List.set_cons_succ, List.set_cons_zero, e3] at ha
      subst ha
      clear e3
      obtain ⟨_, c0, c1, _, _⟩ := HB.out.but hB (by simp)
      refine wpOp_step rfl (fun K hK => ?_)
      go_simp
      exact hK _ _ ⟨_, rfl, (fun h => by cases h), rfl, But.refl _ _, (fun h => by cases h)⟩
    · clear hiz
      cases ho
      intro act u hB hL hdep hap hnw
      replace hB := hB [] (fun j _ k hk => lb0_in j k hk)
      obtain ⟨ysl, ha, hy⟩ := hL.puts [28, 29, 30, 31, 32, 33, 34, 35, 36] (by kernel_rfl)
      clear hdep hL hy hap hnw
      simp only [List.foldl, List.setIfInBounds_toArray, List.set_cons_succ, List.set_cons_zero] at ha
      subst ha
      refine wpOp_step rfl (fun K hK => ?_)
      go_simp
      exact hK _ _ ⟨_, rfl, (fun h => by cases h), rfl, But.refl _ _, (fun h => by cases h)⟩
    · clear hiz
      cases ho
      intro act u hB hL hdep hap hnw
      replace hB := hB [] (fun j _ k hk => lb0_in j k hk)
      obtain ⟨ysl, ha, hy⟩ := hL.puts [28, 29, 30, 31, 32, 33, 34, 35, 36] (by kernel_rfl)
      clear hdep hL hy hap hnw
      simp only [List.foldl, List.setIfInBounds_toArray, List.set_cons_succ, List.set_cons_zero] at ha
      subst ha
      have hIf : Fr u0 u := fr_but (L := []) (Below.refl u0.heap.size u0) hB (fun k hk => by cases hk)
      obtain ⟨i0, i1, i2, i3, i4, i5⟩ := HI.out.frk hIf
      refine wpOp_step rfl (fun K hK => ?_)
      go_simp
      exact hK _ _ ⟨_, rfl, (fun h => by cases h), rfl, But.refl _ _, (fun h => by cases h)⟩
    · clear hiz
      cases ho
      intro act u hB hL hdep hap hnw
      replace hB := hB [] (fun j _ k hk => lb0_in j k hk)
      have d4 := hdep { on := 4, ground := .data } (by simp) rfl _ rfl
      have d5 := hdep { on := 5, ground := .data } (by simp) rfl _ rfl
      have d6 := hdep { on := 6, ground := .data } (by simp) rfl _ rfl
      obtain ⟨ysl, ha, hy⟩ := hL.puts [28, 29, 30, 31, 32, 33, 34, 35, 36] (by kernel_rfl)
      have e4 : ysl 32 = _ := (hy 32).symm.trans d4
      have e5 : ysl 33 = _ := (hy 33).symm.trans d5
      have e6 : ysl 34 = _ := (hy 34).symm.trans d6
      clear hdep hL hy hap hnw d4 d5 d6
      simp only [List.foldl, List.setIfInBounds_toArray, List.set_cons_succ, List.set_cons_zero, e4, e5, e6] at ha
      subst ha
      clear e4 e5 e6
      refine wpOp_step rfl (fun K hK => ?_)
      go_simp
      refine (impl_callsAfter x.C aC cC pc k d a b f n u (HC.out.fr (fr_but HF.out hB (fun k hk => by cases hk))) HO.out.Cl HBD.out.1 HBD.out.2).mono ?_
      rintro e u' ⟨ao, c, rfl, v, f⟩
      go_simp
      exact hK _ _ ⟨_, rfl, (fun h => by cases h), ⟨ao, c, rfl, v.mono hB.size⟩, But.of f, (fun h => by cases h)⟩
    · clear hiz
      cases ho
      intro act u hB hL hdep hap hnw
      replace hB := hB [] (fun j _ k hk => lb0_in j k hk)
      have d2 := hdep { on := 2, ground := .data } (by simp) rfl _ rfl
      have d7 := hdep { on := 7, ground := .data } (by simp) rfl _ rfl
      obtain ⟨ysl, ha, hy⟩ := hL.puts [28, 29, 30, 31, 32, 33, 34, 35, 36] (by kernel_rfl)
      obtain ⟨g2, c2, h2, hB2, r2⟩ := d2
      have e2 : ysl 30 = .slice (some ⟨g2, 0, none⟩) x.S.length c2 := (hy 30).symm.trans h2
      obtain ⟨ao7, c7, h7, v7⟩ := d7
      have e7 : ysl 35 = .slice ao7 (seenC x.C pc k d).length c7 := (hy 35).symm.trans h7
      clear hdep hL hy hap hnw h2 h7
      simp only [List.foldl, List.setIfInBounds_toArray, List.set_cons_succ, List.set_cons_zero, e2, e7] at ha
      subst ha
      clear e2 e7
      have ne1 : 0 < (seenC x.C pc k d).length → ∀ q, ao7 = some q → g2 ≠ q.block := fun h0 => absurd h0 (by rw [HN0.out]; decide)
      refine wpOp_step rfl (fun K hK => ?_)
      go_simp
      exact hK _ _ ⟨_, rfl, (fun h => by cases h), ⟨g2, c2, ao7, c7, rfl, hB2, r2, v7, ne1⟩, But.refl _ _, (fun h => by cases h)⟩
    · exact absurd rfl hiz
    · exact absurd ho (by simp)
  case fin =>
    intro act u hB hL hsf hap hnw
    have d8 := hsf 8 _ rfl (by decide)
    obtain ⟨ysl, ha, hy⟩ := hL.puts [28, 29, 30, 31, 32, 33, 34, 35, 36] (by kernel_rfl)
    obtain ⟨g8, c8a, ao8, c8b, h8, hB8, r8, v8, ap8⟩ := d8
    have e8 : ysl 36 = .agg #[.slice (some ⟨g8, 0, none⟩) x.S.length c8a, .slice ao8 (seenC x.C pc k d).length c8b] := (hy 36).symm.trans h8
    clear hL hsf hy hap hnw h8
    simp only [List.foldl, List.setIfInBounds_toArray, List.set_cons_succ, List.set_cons_zero, e8] at ha
    subst ha
    clear e8
    have Bz := HZ.out.but hB (by simp)
    have Bz0 := Bz
    obtain ⟨lt, c0, z0c, f0, f1⟩ := Bz0
    refine wpOp_step rfl (fun K hK => ?_)
    go_simp
    refine hK _ _ ?_
    have Bn := Bz.set (.slice (some ⟨g8, 0, none⟩) x.S.length c8a) (.slice ao8 (seenC x.C pc k d).length c8b)
    have z0 := Bn.c0
    have z1 := Bn.c1
    have hst : But [w.heap.size + 1] u ((u.setCell ⟨w.heap.size + 1, 0, none⟩ (.slice (some ⟨g8, 0, none⟩) x.S.length c8a)).setCell ⟨w.heap.size + 1, 1, none⟩ (.slice ao8 (seenC x.C pc k d).length c8b)) := (But.refl _ _).set2 (w.heap.size + 1) _ _ (.inl (by simp))
    have HFin := Lib.hid (show Fr w _ from fr_but (fr_but HF.out hB (fun k hk => by cases hk)) hst (fun k hk => by have := List.mem_singleton.1 hk; omega))
    have HOq := Lib.hid (r8.but hst (by simp <;> omega))
    have HV8 := Lib.hid (v8.but' hst (fun k hk hm => by
      obtain ⟨p0, q, e, rfl⟩ := mem_bkS hk
      have h9 := List.mem_singleton.1 hm
      obtain ⟨g9, o9, e9, hb9, _⟩ := v8.at0 p0
      rw [e] at e9
      cases e9
      have : g9 = w.heap.size + 1 := h9
      omega))
    clear Bn Bz c0 z0c f0 f1 hst r8 v8
    generalize ((u.setCell ⟨w.heap.size + 1, 0, none⟩ (.slice (some ⟨g8, 0, none⟩) x.S.length c8a)).setCell ⟨w.heap.size + 1, 1, none⟩ (.slice ao8 (seenC x.C pc k d).length c8b)) = u9 at *
    go_wp2
    refine bodyPost_ret (v := .agg #[.slice (some ⟨g8, 0, none⟩) x.S.length c8a, .slice ao8 (seenC x.C pc k d).length c8b]) (by simp [results, Tryd.results14, go_sem, z0, z1]) rfl ?_
    exact ⟨_, ao8, c8a, c8b, rfl, ⟨HOq.out.vc (by omega), HV8.out.mono (by omega), fun _ h0 p q hp hq => by cases hp; exact ap8 h0 q hq⟩, HFin.out⟩
set_option maxRecDepth 8000 in
set_option maxHeartbeats 1000000 in
theorem impl_GueSeen_n1 (x : Gu) (aS aC : Option Addr) (cS cC : Nat) (pc m : Int) (w : World) (h : Src4 w x.S aS) (hc : Src w x.C.length (ivl x.C) aC) (hS : x.S.length ≤ 100000000) (hC : x.C.length ≤ 100000000) (h1 : okG x = false) :
    Calls Tryd.prog 14 #[.agg #[.slice aS x.S.length cS, .slice aC x.C.length cC], .int .i64 pc, .int .i64 m] w (GuO gu0 w) := by
  have F2 : Fr w ((w.alloc (.cells #[.slice aS x.S.length cS, .slice aC x.C.length cC] 30)).alloc (.cells #[.slice none 0 0, .slice none 0 0] 30)) := by
    (repeat' first | (with_reducible exact Below.refl _ _) | (with_reducible assumption) | ((with_reducible refine Below.setCell ?_ ?hb _); (case hb => first | exact Nat.le_refl _ | (simp; done) | (simp; omega) | omega)) | ((with_reducible refine Below.alloc ?_ ?hb _); (case hb => first | exact Nat.le_refl _ | (simp; done) | (simp; omega) | omega)) | (with_reducible refine Below.drew ?_))
  have HF2 := Lib.hid F2
  have HB2 := Lib.hid ((Box2.new w (.slice aS x.S.length cS) (.slice aC x.C.length cC) 30 _ rfl).fr (Fr.alloc _ (.cells #[.slice none 0 0, .slice none 0 0] 30)))
  have HZ2 := Lib.hid (Box2.new (w.alloc (.cells #[.slice aS x.S.length cS, .slice aC x.C.length cC] 30)) (.slice none 0 0) (.slice none 0 0) 30 (w.heap.size + 1) (by simp))
  have E1 := impl_GueOk x aS aC cS cC _ (h.fr F2) (hc.fr F2) hS hC
  have W1 := fun w => impl_WrdOk pc w
  have W2 := fun w => impl_WrdOk m w
  rw [h1] at E1
  have HE1 := Lib.hid E1
  have HW1 := Lib.hid W1
  have HW2 := Lib.hid W2
  clear F2 h hc hS hC E1 W1 W2 h1
  go_enter Tryd.func14, Tryd.ntmps14
  go_upto_region 1 with fail
  generalize ((w.alloc (.cells #[.slice aS x.S.length cS, .slice aC x.C.length cC] 30)).alloc (.cells #[.slice none 0 0, .slice none 0 0] 30)) = u2 at *
  obtain ⟨_, c0, c1, _, _⟩ := HB2.out
  go_wp2_with fail
  refine HE1.out.mono ?_
  rintro e u3 ⟨rfl, f3⟩
  have HF3 := Lib.hid (HF2.out.trans f3)
  obtain ⟨_, z0, z1, zf0, zf1⟩ := HZ2.out.fr f3
  clear HF2 HB2 HZ2 f3 c0 c1 HE1
  go_wp2_with (first | (go_at_call 24; refine (HW1.out _).mono ?_; rintro e w' ⟨rfl, rfl⟩) | (go_at_call 24; refine (HW2.out _).mono ?_; rintro e w' ⟨rfl, rfl⟩))
  refine bodyPost_ret (v := .agg #[.slice none 0 0, .slice none 0 0]) (by simp [results, Tryd.results14, go_sem, World.cell?_setCell_other, World.cell?_setCell_same, z0, z1]) rfl ⟨none, none, 0, 0, rfl, (VcG.nil _ _ _ _).o, ?_⟩
  exact fr_but HF3.out ((But.refl _ _).set2 (w.heap.size + 1) _ _ (.inl (by simp)) : But [w.heap.size + 1] _ _) (fun k hk => by have := List.mem_singleton.1 hk; omega)
set_option maxRecDepth 8000 in
set_option maxHeartbeats 1000000 in
theorem impl_GueSeen_n2 (x : Gu) (aS aC : Option Addr) (cS cC : Nat) (pc m : Int) (w : World) (h : Src4 w x.S aS) (hc : Src w x.C.length (ivl x.C) aC) (hS : x.S.length ≤ 100000000) (hC : x.C.length ≤ 100000000) (h1 : okG x = true) (h2 : okB pc = false) :
    Calls Tryd.prog 14 #[.agg #[.slice aS x.S.length cS, .slice aC x.C.length cC], .int .i64 pc, .int .i64 m] w (GuO gu0 w) := by
  have F2 : Fr w ((w.alloc (.cells #[.slice aS x.S.length cS, .slice aC x.C.length cC] 30)).alloc (.cells #[.slice none 0 0, .slice none 0 0] 30)) := by
    (repeat' first | (with_reducible exact Below.refl _ _) | (with_reducible assumption) | ((with_reducible refine Below.setCell ?_ ?hb _); (case hb => first | exact Nat.le_refl _ | (simp; done) | (simp; omega) | omega)) | ((with_reducible refine Below.alloc ?_ ?hb _); (case hb => first | exact Nat.le_refl _ | (simp; done) | (simp; omega) | omega)) | (with_reducible refine Below.drew ?_))
  have HF2 := Lib.hid F2
  have HB2 := Lib.hid ((Box2.new w (.slice aS x.S.length cS) (.slice aC x.C.length cC) 30 _ rfl).fr (Fr.alloc _ (.cells #[.slice none 0 0, .slice none 0 0] 30)))
  have HZ2 := Lib.hid (Box2.new (w.alloc (.cells #[.slice aS x.S.length cS, .slice aC x.C.length cC] 30)) (.slice none 0 0) (.slice none 0 0) 30 (w.heap.size + 1) (by simp))
  have E1 := impl_GueOk x aS aC cS cC _ (h.fr F2) (hc.fr F2) hS hC
  have W1 := fun w => impl_WrdOk pc w
  have W2 := fun w => impl_WrdOk m w
  rw [h1] at E1
  rw [h2] at W1
  have HE1 := Lib.hid E1
  have HW1 := Lib.hid W1
  have HW2 := Lib.hid W2
  clear F2 h hc hS hC E1 W1 W2 h1 h2
  go_enter Tryd.func14, Tryd.ntmps14
  go_upto_region 1 with fail
  generalize ((w.alloc (.cells #[.slice aS x.S.length cS, .slice aC x.C.length cC] 30)).alloc (.cells #[.slice none 0 0, .slice none 0 0] 30)) = u2 at *
  obtain ⟨_, c0, c1, _, _⟩ := HB2.out
  go_wp2_with fail
  refine HE1.out.mono ?_
  rintro e u3 ⟨rfl, f3⟩
  have HF3 := Lib.hid (HF2.out.trans f3)
  obtain ⟨_, z0, z1, zf0, zf1⟩ := HZ2.out.fr f3
  clear HF2 HB2 HZ2 f3 c0 c1 HE1
  go_wp2_with (first | (go_at_call 24; refine (HW1.out _).mono ?_; rintro e w' ⟨rfl, rfl⟩) | (go_at_call 24; refine (HW2.out _).mono ?_; rintro e w' ⟨rfl, rfl⟩))
  refine bodyPost_ret (v := .agg #[.slice none 0 0, .slice none 0 0]) (by simp [results, Tryd.results14, go_sem, World.cell?_setCell_other, World.cell?_setCell_same, z0, z1]) rfl ⟨none, none, 0, 0, rfl, (VcG.nil _ _ _ _).o, ?_⟩
  exact fr_but HF3.out ((But.refl _ _).set2 (w.heap.size + 1) _ _ (.inl (by simp)) : But [w.heap.size + 1] _ _) (fun k hk => by have := List.mem_singleton.1 hk; omega)
set_option maxRecDepth 8000 in
set_option maxHeartbeats 1000000 in
theorem impl_GueSeen_n3 (x : Gu) (aS aC : Option Addr) (cS cC : Nat) (pc m : Int) (w : World) (h : Src4 w x.S aS) (hc : Src w x.C.length (ivl x.C) aC) (hS : x.S.length ≤ 100000000) (hC : x.C.length ≤ 100000000) (h1 : okG x = true) (h2 : okB pc = true) (h3 : okB m = false) :
    Calls Tryd.prog 14 #[.agg #[.slice aS x.S.length cS, .slice aC x.C.length cC], .int .i64 pc, .int .i64 m] w (GuO gu0 w) := by
  have F2 : Fr w ((w.alloc (.cells #[.slice aS x.S.length cS, .slice aC x.C.length cC] 30)).alloc (.cells #[.slice none 0 0, .slice none 0 0] 30)) := by
    (repeat' first | (with_reducible exact Below.refl _ _) | (with_reducible assumption) | ((with_reducible refine Below.setCell ?_ ?hb _); (case hb => first | exact Nat.le_refl _ | (simp; done) | (simp; omega) | omega)) | ((with_reducible refine Below.alloc ?_ ?hb _); (case hb => first | exact Nat.le_refl _ | (simp; done) | (simp; omega) | omega)) | (with_reducible refine Below.drew ?_))
  have HF2 := Lib.hid F2
  have HB2 := Lib.hid ((Box2.new w (.slice aS x.S.length cS) (.slice aC x.C.length cC) 30 _ rfl).fr (Fr.alloc _ (.cells #[.slice none 0 0, .slice none 0 0] 30)))
  have HZ2 := Lib.hid (Box2.new (w.alloc (.cells #[.slice aS x.S.length cS, .slice aC x.C.length cC] 30)) (.slice none 0 0) (.slice none 0 0) 30 (w.heap.size + 1) (by simp))
  have E1 := impl_GueOk x aS aC cS cC _ (h.fr F2) (hc.fr F2) hS hC
  have W1 := fun w => impl_WrdOk pc w
  have W2 := fun w => impl_WrdOk m w
  rw [h1] at E1
  rw [h2] at W1
  rw [h3] at W2
  have HE1 := Lib.hid E1
  have HW1 := Lib.hid W1
  have HW2 := Lib.hid W2
  clear F2 h hc hS hC E1 W1 W2 h1 h2 h3
  go_enter Tryd.func14, Tryd.ntmps14
  go_upto_region 1 with fail
  generalize ((w.alloc (.cells #[.slice aS x.S.length cS, .slice aC x.C.length cC] 30)).alloc (.cells #[.slice none 0 0, .slice none 0 0] 30)) = u2 at *
  obtain ⟨_, c0, c1, _, _⟩ := HB2.out
  go_wp2_with fail
  refine HE1.out.mono ?_
  rintro e u3 ⟨rfl, f3⟩
  have HF3 := Lib.hid (HF2.out.trans f3)
  obtain ⟨_, z0, z1, zf0, zf1⟩ := HZ2.out.fr f3
  clear HF2 HB2 HZ2 f3 c0 c1 HE1
  go_wp2_with (first | (go_at_call 24; refine (HW1.out _).mono ?_; rintro e w' ⟨rfl, rfl⟩) | (go_at_call 24; refine (HW2.out _).mono ?_; rintro e w' ⟨rfl, rfl⟩))
  refine bodyPost_ret (v := .agg #[.slice none 0 0, .slice none 0 0]) (by simp [results, Tryd.results14, go_sem, World.cell?_setCell_other, World.cell?_setCell_same, z0, z1]) rfl ⟨none, none, 0, 0, rfl, (VcG.nil _ _ _ _).o, ?_⟩
  exact fr_but HF3.out ((But.refl _ _).set2 (w.heap.size + 1) _ _ (.inl (by simp)) : But [w.heap.size + 1] _ _) (fun k hk => by have := List.mem_singleton.1 hk; omega)
theorem impl_GueSeen (x : Gu) (aS aC : Option Addr) (cS cC : Nat) (pc m : Int) (w : World) (hT : Tabs w) (h : Src4 w x.S aS) (hc : Src w x.C.length (ivl x.C) aC) (hS : x.S.length ≤ 100000000) (hC : x.C.length ≤ 100000000) :
    Calls Tryd.prog 14 #[.agg #[.slice aS x.S.length cS, .slice aC x.C.length cC], .int .i64 pc, .int .i64 m] w (GuO (seenA x pc m) w) := by
  unfold seenA
  cases h1 : okG x
  · exact impl_GueSeen_n1 x aS aC cS cC pc m w h hc hS hC h1
  · cases h2 : okB pc
    · exact impl_GueSeen_n2 x aS aC cS cC pc m w h hc hS hC h1 h2
    · cases h3 : okB m
      · exact impl_GueSeen_n3 x aS aC cS cC pc m w h hc hS hC h1 h2 h3
      · by_cases h0 : 0 < (seenC x.C pc (rI m (m / 4096)) (rI m (rdv m 0))).length
        · exact impl_GueSeen_a x aS aC cS cC pc m w hT h hc ((okG_iff x).1 h1) h2 h3 h0
        · exact impl_GueSeen_b x aS aC cS cC pc m w hT h hc ((okG_iff x).1 h1) h2 h3 (by omega)
theorem few_seen (x : Gu) (pc m : Int) (h : Few5 x) : Few5 (seenA x pc m) := by
  unfold seenA
  split
  · rename_i hb
    simp only [Bool.and_eq_true] at hb
    have := seenC_len x.C pc (rI m (m / 4096)) (rI m (rdv m 0)) ((okG_iff x).1 hb.1).Cl
    exact ⟨h.S, by show (seenC _ _ _ _).length ≤ _; omega⟩
  · exact ⟨by simp, by simp⟩

end Go.Proofs.YtpdlcjjmhcfkjaaDoor
