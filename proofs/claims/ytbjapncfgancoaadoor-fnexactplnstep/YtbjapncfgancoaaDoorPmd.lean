/- PlnStep of the program. -/
import Derived.Test.YtbjapncfgancoaaDoorPmc
import Derived.Test.YtbjapncfgancoaaDoorPl8
namespace Go.Proofs.YtbjapncfgancoaaDoor
open Go.RowKit
set_option linter.unusedVariables false
set_option linter.unusedSimpArgs false
/-- Behind PlnStep of a machine that is ok. -/
def PstP (s : St) (ring : Bool) (w : World) (e : Ending) (w' : World) : Prop :=
  ∃ gr gc gm cr cc cm, e = .returned (.tuple #[.agg #[.int .i64 (stepS s ring).1.pc, .slice (some ⟨gr, 0, none⟩) 8 cr, .slice (some ⟨gc, 0, none⟩) 5 cc, .slice (some ⟨gm, 0, none⟩) 256 cm], .agg #[.int .i64 ((stepS s ring).2).pc, .int .i64 ((stepS s ring).2).w, .int .i64 ((stepS s ring).2).why, .int .i64 ((stepS s ring).2).d, .int .i64 ((stepS s ring).2).v, .int .i64 ((stepS s ring).2).ad, .int .i64 ((stepS s ring).2).dt]]) ∧ Own w' gr gc gm (stepS s ring).1 ∧ w.heap.size ≤ gr ∧ w.heap.size ≤ gc ∧ w.heap.size ≤ gm ∧ Fr w w'
set_option maxRecDepth 8000 in
set_option maxHeartbeats 8000000 in
theorem impl_PlnStep (s : St) (aR aC aM : Option Addr) (cR cC cM : Nat) (ring : Bool) (w : World) (h : SrcS w s aR aC aM) (hk : OkS s) (ht : Tabs w) :
    Calls Tryd.prog 22 #[.agg #[.int .i64 (s).pc, .slice aR (s).R.length cR, .slice aC (s).C.length cC, .slice aM (s).M.length cM], .bool ring] w (PstP s ring w) := by
  have F3 : Fr w (((w.alloc (.cells #[.int .i64 s.pc, .slice aR s.R.length cR, .slice aC s.C.length cC, .slice aM s.M.length cM] 26)).alloc (.cells #[.int .i64 0, .slice none 0 0, .slice none 0 0, .slice none 0 0] 26)).alloc (.cells #[.int .i64 0, .int .i64 0, .int .i64 0, .int .i64 0, .int .i64 0, .int .i64 0, .int .i64 0] 28)) := by
    (repeat' first | (with_reducible exact Below.refl _ _) | (with_reducible assumption) | ((with_reducible refine Below.setCell ?_ ?hb _); (case hb => first | exact Nat.le_refl _ | (simp; done) | (simp; omega) | omega)) | ((with_reducible refine Below.alloc ?_ ?hb _); (case hb => first | exact Nat.le_refl _ | (simp; done) | (simp; omega) | omega)) | (with_reducible refine Below.drew ?_))
  have E := Lib.hid (impl_PlnOk s aR aC aM cR cC cM _ (h.fr F3) (ok_few20 hk).few)
  rw [(okS_iff s).2 hk] at E
  have HF := Lib.hid F3
  have HK := Lib.hid hk
  have HS := Lib.hid h
  have HT := Lib.hid ht
  clear F3 h hk ht
  unfold PstP
  obtain ⟨s2, hs2⟩ : ∃ x, (stepS s ring).1 = x := ⟨_, rfl⟩
  obtain ⟨e2, he2⟩ : ∃ x, (stepS s ring).2 = x := ⟨_, rfl⟩
  rw [hs2, he2]
  have HS2 := Lib.hid hs2
  have HE2 := Lib.hid he2
  clear hs2 he2
  go_enter Tryd.func22, Tryd.ntmps22
  go_wp2_with fail
  simp only [Nat.add_assoc, Nat.reduceAdd]
  refine E.out.mono ?_
  rintro e u1 ⟨rfl, f1⟩
  have b1 : Box4 u1 w.heap.size (.int .i64 s.pc) (.slice aR s.R.length cR) (.slice aC s.C.length cC) (.slice aM s.M.length cM) := by
    refine Box4.fr ?_ f1
    (repeat with_reducible first | assumption | exact Box4.new _ _ _ _ _ _ _ (by first | rfl | simp | (simp; omega)) | refine Box4.alloc ?_ _ | refine Box4.drew ?_ | refine Box4.drewN ?_ _ | refine Box4.other ?_ _ _ _ (by omega))
  have b2 : Box4 u1 (w.heap.size + 1) (.int .i64 0) (.slice none 0 0) (.slice none 0 0) (.slice none 0 0) := by
    refine Box4.fr ?_ f1
    (repeat with_reducible first | assumption | exact Box4.new _ _ _ _ _ _ _ (by first | rfl | simp | (simp; omega)) | refine Box4.alloc ?_ _ | refine Box4.drew ?_ | refine Box4.drewN ?_ _ | refine Box4.other ?_ _ _ _ (by omega))
  have b3 : Box7 u1 (w.heap.size + 2) ⟨0, 0, 0, 0, 0, 0, 0⟩ := by
    refine Box7.fr ?_ f1
    (repeat with_reducible first | assumption | exact Box7.new _ _ _ _ (by first | rfl | simp | (simp; omega)) | exact Box7.newv _ _ _ _ _ _ _ _ _ _ (by first | rfl | simp | (simp; omega)) | refine Box7.alloc ?_ _ | refine Box7.drew ?_ | refine Box7.drewN ?_ _ | refine Box7.other ?_ _ _ _ (by omega))
  have FF := Lib.hid (HF.out.trans f1)
  have hs1 : w.heap.size + 3 ≤ u1.heap.size := by have := f1.size; simp at this; omega
  have HZ := Lib.hid b2
  have HV := Lib.hid b3
  obtain ⟨g1, b10, b11, b12, b13, _, _, _, _⟩ := b1
  clear f1 E HF b2 b3
  go_wp2_with fail
  refine (impl_newMachine s aR aC aM cR cC cM u1 (HS.out.fr FF.out) HK.out).mono ?_
  rintro e u2 ⟨m, gr, gc, gm, cr, cc, cm, rfl, hM, l0, l1, l2, l3, f2⟩
  have hgt := HT.out.two
  have HT2 := Lib.hid (HT.out.fr (FF.out.trans f2))
  have HF2 := Lib.hid (FF.out.trans f2)
  have HZ2 := Lib.hid (HZ.out.fr f2)
  have HV2 := Lib.hid (HV.out.fr f2)
  have HM2 := Lib.hid hM
  clear f2 b10 b11 b12 b13 g1 HZ HV FF HT hM HS
  go_wp2_with fail
  refine (impl_step u2 m gr gc gm cr cc cm s ring HM2.out HK.out HT2.out (by omega)).mono ?_
  rintro e u3 ⟨rfl, ⟨nx', hM3⟩, hB3⟩
  have HF3 := Lib.hid (fr_but HF2.out hB3 (fun k hk => by simp at hk; omega))
  have HZ3 := Lib.hid (HZ2.out.but hB3 (by simp; omega))
  have HV3 := Lib.hid (HV2.out.but hB3 (by simp; omega))
  rw [HS2.out, HE2.out] at hM3
  have HM := Lib.hid hM3
  clear hB3 hM3 HM2 HF2 HZ2 HV2 HT2
  have hlm := HM.out.lt
  go_wp2_with fail
  refine wp_region_lots 25 (fun i => if i = 8 then [w.heap.size + 1] else if i = 9 then [w.heap.size + 2] else []) (fun _ _ => True) (fun i v u => match i with | 0 => v = .pointer (some ⟨m, 0, none⟩) | 1 => v = .pointer (some ⟨m, 0, none⟩) | 2 => v = .pointer (some ⟨m, 0, none⟩) | 3 => v = .agg #[.int .i64 s2.pc, .slice (some ⟨gr, 0, none⟩) 8 cr, .slice (some ⟨gc, 0, none⟩) 5 cc, .slice (some ⟨gm, 0, none⟩) 256 cm] | 4 => v = .pointer (some ⟨m, 0, none⟩) | 5 => v = .pointer (some ⟨m, 0, none⟩) | 6 => v = .pointer (some ⟨m, 4, none⟩) | 7 => v = .agg #[.int .i64 (e2).pc, .int .i64 (e2).w, .int .i64 (e2).why, .int .i64 (e2).d, .int .i64 (e2).v, .int .i64 (e2).ad, .int .i64 (e2).dt] | 8 => Box4 u (w.heap.size + 1) (.int .i64 s2.pc) (.slice (some ⟨gr, 0, none⟩) 8 cr) (.slice (some ⟨gc, 0, none⟩) 5 cc) (.slice (some ⟨gm, 0, none⟩) 256 cm) | 9 => Box7 u (w.heap.size + 2) e2 | _ => True) ?mono (by kernel_rfl) (by kernel_rfl) rfl (by kernel_rfl) trivial ?step ?fin
  case mono =>
    intro i j v u u' hij hsz h hB
    rcases j with _ | _ | _ | _ | _ | _ | _ | _ | _ | _ | j
    · exact h
    · exact h
    · exact h
    · exact h
    · exact h
    · exact h
    · exact h
    · exact h
    · exact h.but hB (fun hm => by
        have hm2 : w.heap.size + 1 ∈ (if i = 8 then [w.heap.size + 1] else if i = 9 then [w.heap.size + 2] else []) := hm
        by_cases x9 : i = 9
        · subst x9; simp at hm2
        · have x8 : ¬ i = 8 := hij
          rw [if_neg x8, if_neg x9] at hm2
          cases hm2)
    · exact h.but hB (fun hm => by
        have hm2 : w.heap.size + 2 ∈ (if i = 8 then [w.heap.size + 1] else if i = 9 then [w.heap.size + 2] else []) := hm
        by_cases x8 : i = 8
        · subst x8; simp at hm2
        · have x9 : ¬ i = 9 := hij
          rw [if_neg x8, if_neg x9] at hm2
          cases hm2)
    · trivial
  case step =>
    intro i o ho
    rcases i with _ | _ | _ | _ | _ | _ | _ | _ | _ | _ | i
    · cases ho
      intro fu act u hW hB hsz hL hdep
      replace hB := hB [w.heap.size + 1, w.heap.size + 2] (fun j hj hd k hk => by
        by_cases y8 : j = 8
        · rw [if_pos y8] at hk; simp at hk; simp [hk]
        rw [if_neg y8] at hk
        by_cases y9 : j = 9
        · rw [if_pos y9] at hk; simp at hk; simp [hk]
        rw [if_neg y9] at hk
        cases hk)
      obtain ⟨ysl, ha, hy⟩ := hL.puts [17, 18, 19, 20, 21, 22, 23, 24] (by kernel_rfl)
      clear hdep hL hy
      simp only [List.foldl, List.setIfInBounds_toArray, List.set_cons_succ, List.set_cons_zero] at ha
      subst ha
      refine wpOp_step rfl (fun K hK => ?_)
      go_simp
      exact hK _ _ ⟨_, rfl, (fun h => by cases h), rfl, But.refl _ _, trivial⟩
    · cases ho
      intro fu act u hW hB hsz hL hdep
      replace hB := hB [w.heap.size + 1, w.heap.size + 2] (fun j hj hd k hk => by
        by_cases y8 : j = 8
        · rw [if_pos y8] at hk; simp at hk; simp [hk]
        rw [if_neg y8] at hk
        by_cases y9 : j = 9
        · rw [if_pos y9] at hk; simp at hk; simp [hk]
        rw [if_neg y9] at hk
        cases hk)
      have d0 := hdep { on := 0, ground := .data } (by simp) rfl _ rfl
      obtain ⟨ysl, ha, hy⟩ := hL.puts [17, 18, 19, 20, 21, 22, 23, 24] (by kernel_rfl)
      have e0 : ysl 17 = _ := (hy 17).symm.trans d0
      clear hdep hL hy d0
      simp only [List.foldl, List.setIfInBounds_toArray, List.set_cons_succ, List.set_cons_zero, e0] at ha
      subst ha
      clear e0
      refine wpOp_step rfl (fun K hK => ?_)
      go_simp
      exact hK _ _ ⟨_, rfl, (fun h => by cases h), rfl, But.refl _ _, trivial⟩
    · cases ho
      intro fu act u hW hB hsz hL hdep
      replace hB := hB [w.heap.size + 1, w.heap.size + 2] (fun j hj hd k hk => by
        by_cases y8 : j = 8
        · rw [if_pos y8] at hk; simp at hk; simp [hk]
        rw [if_neg y8] at hk
        by_cases y9 : j = 9
        · rw [if_pos y9] at hk; simp at hk; simp [hk]
        rw [if_neg y9] at hk
        cases hk)
      have d1 := hdep { on := 1, ground := .data } (by simp) rfl _ rfl
      obtain ⟨ysl, ha, hy⟩ := hL.puts [17, 18, 19, 20, 21, 22, 23, 24] (by kernel_rfl)
      have e1 : ysl 18 = _ := (hy 18).symm.trans d1
      clear hdep hL hy d1
      simp only [List.foldl, List.setIfInBounds_toArray, List.set_cons_succ, List.set_cons_zero, e1] at ha
      subst ha
      clear e1
      refine wpOp_step rfl (fun K hK => ?_)
      go_simp
      exact hK _ _ ⟨_, rfl, (fun h => by cases h), rfl, But.refl _ _, trivial⟩
    · cases ho
      intro fu act u hW hB hsz hL hdep
      replace hB := hB [w.heap.size + 1, w.heap.size + 2] (fun j hj hd k hk => by
        by_cases y8 : j = 8
        · rw [if_pos y8] at hk; simp at hk; simp [hk]
        rw [if_neg y8] at hk
        by_cases y9 : j = 9
        · rw [if_pos y9] at hk; simp at hk; simp [hk]
        rw [if_neg y9] at hk
        cases hk)
      have d2 := hdep { on := 2, ground := .data } (by simp) rfl _ rfl
      obtain ⟨ysl, ha, hy⟩ := hL.puts [17, 18, 19, 20, 21, 22, 23, 24] (by kernel_rfl)
      have e2 : ysl 19 = _ := (hy 19).symm.trans d2
      clear hdep hL hy d2
      simp only [List.foldl, List.setIfInBounds_toArray, List.set_cons_succ, List.set_cons_zero, e2] at ha
      subst ha
      clear e2
      have hm := (HM.out.but hB (by simp; omega) (by simp; omega) (by simp; omega) (by simp; omega))
      obtain ⟨c0, c1, c2, c3⟩ := hm.four
      refine wpOp_step rfl (fun K hK => ?_)
      go_simp
      exact hK _ _ ⟨_, rfl, (fun h => by cases h), rfl, But.refl _ _, trivial⟩
    · cases ho
      intro fu act u hW hB hsz hL hdep
      replace hB := hB [w.heap.size + 1, w.heap.size + 2] (fun j hj hd k hk => by
        by_cases y8 : j = 8
        · rw [if_pos y8] at hk; simp at hk; simp [hk]
        rw [if_neg y8] at hk
        by_cases y9 : j = 9
        · rw [if_pos y9] at hk; simp at hk; simp [hk]
        rw [if_neg y9] at hk
        cases hk)
      obtain ⟨ysl, ha, hy⟩ := hL.puts [17, 18, 19, 20, 21, 22, 23, 24] (by kernel_rfl)
      clear hdep hL hy
      simp only [List.foldl, List.setIfInBounds_toArray, List.set_cons_succ, List.set_cons_zero] at ha
      subst ha
      refine wpOp_step rfl (fun K hK => ?_)
      go_simp
      exact hK _ _ ⟨_, rfl, (fun h => by cases h), rfl, But.refl _ _, trivial⟩
    · cases ho
      intro fu act u hW hB hsz hL hdep
      replace hB := hB [w.heap.size + 1, w.heap.size + 2] (fun j hj hd k hk => by
        by_cases y8 : j = 8
        · rw [if_pos y8] at hk; simp at hk; simp [hk]
        rw [if_neg y8] at hk
        by_cases y9 : j = 9
        · rw [if_pos y9] at hk; simp at hk; simp [hk]
        rw [if_neg y9] at hk
        cases hk)
      have d4 := hdep { on := 4, ground := .data } (by simp) rfl _ rfl
      obtain ⟨ysl, ha, hy⟩ := hL.puts [17, 18, 19, 20, 21, 22, 23, 24] (by kernel_rfl)
      have e4 : ysl 21 = _ := (hy 21).symm.trans d4
      clear hdep hL hy d4
      simp only [List.foldl, List.setIfInBounds_toArray, List.set_cons_succ, List.set_cons_zero, e4] at ha
      subst ha
      clear e4
      refine wpOp_step rfl (fun K hK => ?_)
      go_simp
      exact hK _ _ ⟨_, rfl, (fun h => by cases h), rfl, But.refl _ _, trivial⟩
    · cases ho
      intro fu act u hW hB hsz hL hdep
      replace hB := hB [w.heap.size + 1, w.heap.size + 2] (fun j hj hd k hk => by
        by_cases y8 : j = 8
        · rw [if_pos y8] at hk; simp at hk; simp [hk]
        rw [if_neg y8] at hk
        by_cases y9 : j = 9
        · rw [if_pos y9] at hk; simp at hk; simp [hk]
        rw [if_neg y9] at hk
        cases hk)
      have d5 := hdep { on := 5, ground := .data } (by simp) rfl _ rfl
      obtain ⟨ysl, ha, hy⟩ := hL.puts [17, 18, 19, 20, 21, 22, 23, 24] (by kernel_rfl)
      have e5 : ysl 22 = _ := (hy 22).symm.trans d5
      clear hdep hL hy d5
      simp only [List.foldl, List.setIfInBounds_toArray, List.set_cons_succ, List.set_cons_zero, e5] at ha
      subst ha
      clear e5
      refine wpOp_step rfl (fun K hK => ?_)
      go_simp
      exact hK _ _ ⟨_, rfl, (fun h => by cases h), rfl, But.refl _ _, trivial⟩
    · cases ho
      intro fu act u hW hB hsz hL hdep
      replace hB := hB [w.heap.size + 1, w.heap.size + 2] (fun j hj hd k hk => by
        by_cases y8 : j = 8
        · rw [if_pos y8] at hk; simp at hk; simp [hk]
        rw [if_neg y8] at hk
        by_cases y9 : j = 9
        · rw [if_pos y9] at hk; simp at hk; simp [hk]
        rw [if_neg y9] at hk
        cases hk)
      have d6 := hdep { on := 6, ground := .data } (by simp) rfl _ rfl
      obtain ⟨ysl, ha, hy⟩ := hL.puts [17, 18, 19, 20, 21, 22, 23, 24] (by kernel_rfl)
      have e6 : ysl 23 = _ := (hy 23).symm.trans d6
      clear hdep hL hy d6
      simp only [List.foldl, List.setIfInBounds_toArray, List.set_cons_succ, List.set_cons_zero, e6] at ha
      subst ha
      clear e6
      have hm := (HM.out.but hB (by simp; omega) (by simp; omega) (by simp; omega) (by simp; omega))
      have c4 := hm.cel 4 (by decide)
      have c5 := hm.cel 5 (by decide)
      have c6 := hm.cel 6 (by decide)
      have c7 := hm.cel 7 (by decide)
      have c8 := hm.cel 8 (by decide)
      have c9 := hm.cel 9 (by decide)
      have c10 := hm.cel 10 (by decide)
      simp only [mCells, List.getElem?_cons_succ, List.getElem?_cons_zero] at c4 c5 c6 c7 c8 c9 c10
      refine wpOp_step rfl (fun K hK => ?_)
      go_simp
      exact hK _ _ ⟨_, rfl, (fun h => by cases h), rfl, But.refl _ _, trivial⟩
    · cases ho
      intro fu act u hW hB hsz hL hdep
      replace hB := hB [w.heap.size + 2] (fun j hj hd k hk => by
        by_cases x8 : j = 8
        · exact absurd x8 hj
        rw [if_neg x8] at hk
        by_cases y9 : j = 9
        · rw [if_pos y9] at hk; simp at hk; simp [hk]
        rw [if_neg y9] at hk
        cases hk)
      have d3 := hdep { on := 3, ground := .data } (by simp) rfl _ rfl
      obtain ⟨ysl, ha, hy⟩ := hL.puts [17, 18, 19, 20, 21, 22, 23, 24] (by kernel_rfl)
      have e3 : ysl 20 = _ := (hy 20).symm.trans d3
      clear hdep hL hy d3
      simp only [List.foldl, List.setIfInBounds_toArray, List.set_cons_succ, List.set_cons_zero, e3] at ha
      subst ha
      clear e3
      obtain ⟨_, z0, z1, z2, z3, y0, y1, y2, y3⟩ := HZ3.out.but hB (by simp)
      refine wpOp_step rfl (fun K hK => ?_)
      go_simp
      exact hK _ _ ⟨undef, rfl, (fun _ => rfl), ((HZ3.out.but hB (by simp)).set _ _ _ _), (But.refl [w.heap.size + 1] u).set4 _ _ _ _ _ (.inl (by simp)), trivial⟩
    · cases ho
      intro fu act u hW hB hsz hL hdep
      replace hB := hB [w.heap.size + 1] (fun j hj hd k hk => by
        by_cases x9 : j = 9
        · exact absurd x9 hj
        by_cases y8 : j = 8
        · rw [if_pos y8] at hk; simp at hk; simp [hk]
        rw [if_neg y8] at hk
        rw [if_neg x9] at hk
        cases hk)
      have d7 := hdep { on := 7, ground := .data } (by simp) rfl _ rfl
      obtain ⟨ysl, ha, hy⟩ := hL.puts [17, 18, 19, 20, 21, 22, 23, 24] (by kernel_rfl)
      have e7 : ysl 24 = _ := (hy 24).symm.trans d7
      clear hdep hL hy d7
      simp only [List.foldl, List.setIfInBounds_toArray, List.set_cons_succ, List.set_cons_zero, e7] at ha
      subst ha
      clear e7
      have hv := HV3.out.but hB (by simp)
      obtain ⟨_, z0, z1, z2, z3, z4, z5, z6, y0, y1, y2, y3, y4, y5, y6⟩ := hv
      refine wpOp_step rfl (fun K hK => ?_)
      go_simp
      exact hK _ _ ⟨undef, rfl, (fun _ => rfl), (((((((HV3.out.but hB (by simp)).set0 _).set1 _).set2 _).set3 _).set4 _).set5 _).set6 _, ((((((((But.refl [w.heap.size + 2] u).set _ _ _ (.inl (by simp))).set _ _ _ (.inl (by simp))).set _ _ _ (.inl (by simp))).set _ _ _ (.inl (by simp))).set _ _ _ (.inl (by simp))).set _ _ _ (.inl (by simp))).set _ _ _ (.inl (by simp))), trivial⟩
    · exact absurd ho (by simp)
  case fin =>
    intro act u hW hsz hB hL hsf
    replace hB := hB [w.heap.size + 1, w.heap.size + 2] (fun j k hk => by
      by_cases y8 : j = 8
      · rw [if_pos y8] at hk; simp at hk; simp [hk]
      rw [if_neg y8] at hk
      by_cases y9 : j = 9
      · rw [if_pos y9] at hk; simp at hk; simp [hk]
      rw [if_neg y9] at hk
      cases hk)
    have d8 := hsf 8 _ rfl
    have d9 := hsf 9 _ rfl
    obtain ⟨ysl, ha, hy⟩ := hL.puts [17, 18, 19, 20, 21, 22, 23, 24] (by kernel_rfl)
    clear hL hsf hy
    simp only [List.foldl, List.setIfInBounds_toArray, List.set_cons_succ, List.set_cons_zero] at ha
    subst ha
    have HOW := Lib.hid (HM.out.but hB (by simp; omega) (by simp; omega) (by simp; omega) (by simp; omega)).ow
    have HFF := Lib.hid (fr_but HF3.out hB (fun k hk => by simp at hk; omega))
    obtain ⟨_, z0, z1, z2, z3, _, _, _, _⟩ := d8
    obtain ⟨_, v0, v1, v2, v3, v4, v5, v6, _, _, _, _, _, _, _⟩ := d9
    clear hB hW
    go_wp2_with fail
    refine bodyPost_ret (v := .tuple #[.agg #[.int .i64 s2.pc, .slice (some ⟨gr, 0, none⟩) 8 cr, .slice (some ⟨gc, 0, none⟩) 5 cc, .slice (some ⟨gm, 0, none⟩) 256 cm], .agg #[.int .i64 (e2).pc, .int .i64 (e2).w, .int .i64 (e2).why, .int .i64 (e2).d, .int .i64 (e2).v, .int .i64 (e2).ad, .int .i64 (e2).dt]]) (by simp [results, Tryd.results22, go_sem, z0, z1, z2, z3, v0, v1, v2, v3, v4, v5, v6]) rfl ⟨gr, gc, gm, cr, cc, cm, rfl, HOW.out, by omega, by omega, by omega, HFF.out⟩

end Go.Proofs.YtbjapncfgancoaaDoor
