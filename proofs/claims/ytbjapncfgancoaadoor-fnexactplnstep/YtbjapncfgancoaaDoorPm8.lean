/- What the program's machine takes, and how it stops. -/
import Derived.Test.YtbjapncfgancoaaDoorPm7
namespace Go.Proofs.YtbjapncfgancoaaDoor
open Go.RowKit
set_option linter.unusedVariables false
set_option linter.unusedSimpArgs false
theorem Tabs.but {L : List Nat} {w w' : World} (h : Tabs w) (f : But L w w') (hL : ∀ k, k ∈ L → 2 ≤ k) : Tabs w' := by
  have ht := h.two
  refine ⟨fun i hi => ?_, fun i hi => ?_⟩
  · rw [f.cell (show 0 < w.heap.size by omega) (fun hm => by have := hL _ hm; omega)]; exact h.enc i hi
  · rw [f.cell (show 1 < w.heap.size by omega) (fun hm => by have := hL _ hm; omega)]; exact h.lay i hi
/-- Behind fetch. -/
def FetP (m gr gc gm cr cc cm : Nat) (s : St) (e : Ev) (u : World) (r : Ending) (u' : World) : Prop :=
  (see s.C s.M s.pc false < 0 ∧ r = trapE 2 ∧ Mx u' m gr gc gm cr cc cm s e (nx s) ∧ But [m, gr, gc, gm] u u') ∨
  (0 ≤ see s.C s.M s.pc false ∧ gd (wAt s) = false ∧ r = trapE 1 ∧ Mx u' m gr gc gm cr cc cm s { e with w := wAt s } (nx s) ∧ But [m, gr, gc, gm] u u') ∨
  (0 ≤ see s.C s.M s.pc false ∧ gd (wAt s) = true ∧ r = .returned (.agg #[.int .i64 (wAt s / 4096), .int .i64 (rdv (wAt s) 0), .int .i64 (rdv (wAt s) 1), .int .i64 (rdv (wAt s) 2), .int .i64 (rdv (wAt s) 3), .int .i64 (rdv (wAt s) 4)]) ∧ Mx u' m gr gc gm cr cc cm s { e with w := wAt s } (nx s) ∧ But [m, gr, gc, gm] u u')
set_option maxRecDepth 8000 in
set_option maxHeartbeats 4000000 in
theorem impl_fetch (u : World) (m gr gc gm cr cc cm : Nat) (s : St) (e : Ev) (h : Mx u m gr gc gm cr cc cm s e (nx s)) (hk : OkS s) (ht : Tabs u) (hg : 2 ≤ m) :
    Calls Tryd.prog 76 #[.pointer (some ⟨m, 0, none⟩)] u (FetP m gr gc gm cr cc cm s e u) := by
  have hlm := h.lt
  have hpc := okB_true hk.pc
  have HK := Lib.hid hk
  have F0 := Fr.alloc u (.cells #[.int .i64 0, .int .i64 0, .int .i64 0, .int .i64 0, .int .i64 0, .int .i64 0] 48)
  have HM := Lib.hid (h.fr F0)
  have HT := Lib.hid (ht.fr F0)
  have HX0 := Lib.hid (Box.new u 0 0 0 0 0 0 48)
  have HZ0 := Lib.hid (fun j : Nat => (alloc_at u #[.int .i64 0, .int .i64 0, .int .i64 0, .int .i64 0, .int .i64 0, .int .i64 0] 48 _ rfl j).2)
  have HF := Lib.hid F0
  have ho := h.ow
  have lr := ho.R.lt
  have lc := ho.C.lt
  have lm := ho.M.lt
  clear h hk F0 ho ht
  have hsb := see_bd s.C s.M s.pc false hpc.1
  have HW0 := Lib.hid (show wAt s = s.M.getD (see s.C s.M s.pc false).toNat 0 from rfl)
  obtain ⟨AT0, hAT⟩ : ∃ x, see s.C s.M s.pc false = x := ⟨_, rfl⟩
  rw [hAT] at hsb
  obtain ⟨wv, hwv⟩ : ∃ x, s.M.getD AT0.toNat 0 = x := ⟨_, rfl⟩
  have HWA := Lib.hid (show wAt s = wv by rw [← hwv, ← hAT]; rfl)
  have HAT := Lib.hid hAT
  have qv := ok_get HK.out.M AT0.toNat
  rw [hwv] at qv
  obtain ⟨qv0, qv1⟩ := qv
  clear hAT
  go_enter Tryd.func76, Tryd.ntmps76
  go_wp2_with fail
  generalize (u.alloc (.cells #[.int .i64 0, .int .i64 0, .int .i64 0, .int .i64 0, .int .i64 0, .int .i64 0] 48)) = u0 at *
  have hz := HF.out.size
  have hXl := HX0.out.lt
  have HX := Lib.hid HX0.out
  clear HX0
  generalize hXe : u.heap.size = X at *
  by_cases hneg : AT0 < 0
  · refine wp_region_lots2 36 (fun _ => []) (fun _ _ => True) (fun i v u => match i with | 0 => v = .pointer (some ⟨m, 0, none⟩) | 1 => v = .pointer (some ⟨m, 0, none⟩) | 2 => v = .pointer (some ⟨m, 0, none⟩) | 3 => v = .pointer (some ⟨m, 0, none⟩) | 4 => v = .pointer (some ⟨m, 3, none⟩) | 5 => v = .slice (some ⟨gm, 0, none⟩) 256 cm | 6 => v = .pointer (some ⟨m, 0, none⟩) | 7 => v = .pointer (some ⟨m, 0, none⟩) | 8 => v = .pointer (some ⟨m, 0, none⟩) | 9 => v = .pointer (some ⟨m, 0, none⟩) | 10 => v = .pointer (some ⟨m, 0, none⟩) | 11 => v = .int .i64 s.pc | 12 => False | 13 => False | 14 => False | 15 => False | 16 => False | 17 => False | 18 => False | _ => True) ?mono (by kernel_rfl) (by kernel_rfl) rfl (by kernel_rfl) trivial ?step ?fin
    case mono =>
      intro i j v u u' hij hsz h hB
      rcases j with _ | _ | _ | _ | _ | _ | _ | _ | _ | _ | _ | _ | _ | _ | _ | _ | _ | _ | _ | j
      · exact h
      · exact h
      · exact h
      · exact h
      · exact h
      · exact h
      · exact h
      · exact h
      · exact h
      · exact h
      · exact h
      · exact h
      · exact h
      · exact h
      · exact h
      · exact h
      · exact h
      · exact h
      · exact h
      · trivial
    case step =>
      intro i o ho
      rcases i with _ | _ | _ | _ | _ | _ | _ | _ | _ | _ | _ | _ | _ | _ | _ | _ | _ | _ | _ | i
      · cases ho
        intro fu act u hW hB hsz hL hdep
        replace hB := hB [] (fun j hj hd k hk => by cases hk)
        obtain ⟨ysl, ha, hy⟩ := hL.puts [5, 6, 7, 8, 9, 10, 11, 12, 13, 14, 15, 16, 17, 18, 19, 20, 21, 22] (by kernel_rfl)
        clear hdep hL hy
        simp only [List.foldl, List.setIfInBounds_toArray, List.set_cons_succ, List.set_cons_zero] at ha
        subst ha
        refine wpOp_step rfl (fun K hK => ?_)
        go_simp
        exact hK _ _ ⟨_, rfl, (fun h => by cases h), (by first | rfl | (exact congrArg (Value.int .i64) (by rw [IntWalk.i64_left, IntWalk.wrap64_in _ (by omega)])) | simp), But.refl _ _, trivial⟩
      · cases ho
        intro fu act u hW hB hsz hL hdep
        replace hB := hB [] (fun j hj hd k hk => by cases hk)
        obtain ⟨ysl, ha, hy⟩ := hL.puts [5, 6, 7, 8, 9, 10, 11, 12, 13, 14, 15, 16, 17, 18, 19, 20, 21, 22] (by kernel_rfl)
        clear hdep hL hy
        simp only [List.foldl, List.setIfInBounds_toArray, List.set_cons_succ, List.set_cons_zero] at ha
        subst ha
        refine wpOp_step rfl (fun K hK => ?_)
        go_simp
        exact hK _ _ ⟨_, rfl, (fun h => by cases h), (by first | rfl | (exact congrArg (Value.int .i64) (by rw [IntWalk.i64_left, IntWalk.wrap64_in _ (by omega)])) | simp), But.refl _ _, trivial⟩
      · cases ho
        intro fu act u hW hB hsz hL hdep
        replace hB := hB [] (fun j hj hd k hk => by cases hk)
        have d1 := hdep { on := 1, ground := .data } (by simp) rfl _ rfl
        obtain ⟨ysl, ha, hy⟩ := hL.puts [5, 6, 7, 8, 9, 10, 11, 12, 13, 14, 15, 16, 17, 18, 19, 20, 21, 22] (by kernel_rfl)
        have e1 : ysl 6 = .pointer (some ⟨m, 0, none⟩) := (hy 6).symm.trans d1
        clear hdep hL hy d1
        simp only [List.foldl, List.setIfInBounds_toArray, List.set_cons_succ, List.set_cons_zero, e1] at ha
        subst ha
        clear e1
        refine wpOp_step rfl (fun K hK => ?_)
        go_simp
        exact hK _ _ ⟨_, rfl, (fun h => by cases h), (by first | rfl | (exact congrArg (Value.int .i64) (by rw [IntWalk.i64_left, IntWalk.wrap64_in _ (by omega)])) | simp), But.refl _ _, trivial⟩
      · cases ho
        intro fu act u hW hB hsz hL hdep
        replace hB := hB [] (fun j hj hd k hk => by cases hk)
        have d2 := hdep { on := 2, ground := .data } (by simp) rfl _ rfl
        obtain ⟨ysl, ha, hy⟩ := hL.puts [5, 6, 7, 8, 9, 10, 11, 12, 13, 14, 15, 16, 17, 18, 19, 20, 21, 22] (by kernel_rfl)
        have e2 : ysl 7 = .pointer (some ⟨m, 0, none⟩) := (hy 7).symm.trans d2
        clear hdep hL hy d2
        simp only [List.foldl, List.setIfInBounds_toArray, List.set_cons_succ, List.set_cons_zero, e2] at ha
        subst ha
        clear e2
        refine wpOp_step rfl (fun K hK => ?_)
        go_simp
        exact hK _ _ ⟨_, rfl, (fun h => by cases h), (by first | rfl | (exact congrArg (Value.int .i64) (by rw [IntWalk.i64_left, IntWalk.wrap64_in _ (by omega)])) | simp), But.refl _ _, trivial⟩
      · cases ho
        intro fu act u hW hB hsz hL hdep
        replace hB := hB [] (fun j hj hd k hk => by cases hk)
        have d3 := hdep { on := 3, ground := .data } (by simp) rfl _ rfl
        obtain ⟨ysl, ha, hy⟩ := hL.puts [5, 6, 7, 8, 9, 10, 11, 12, 13, 14, 15, 16, 17, 18, 19, 20, 21, 22] (by kernel_rfl)
        have e3 : ysl 8 = .pointer (some ⟨m, 0, none⟩) := (hy 8).symm.trans d3
        clear hdep hL hy d3
        simp only [List.foldl, List.setIfInBounds_toArray, List.set_cons_succ, List.set_cons_zero, e3] at ha
        subst ha
        clear e3
        refine wpOp_step rfl (fun K hK => ?_)
        go_simp
        exact hK _ _ ⟨_, rfl, (fun h => by cases h), (by first | rfl | (exact congrArg (Value.int .i64) (by rw [IntWalk.i64_left, IntWalk.wrap64_in _ (by omega)])) | simp), But.refl _ _, trivial⟩
      · cases ho
        intro fu act u hW hB hsz hL hdep
        replace hB := hB [] (fun j hj hd k hk => by cases hk)
        have d4 := hdep { on := 4, ground := .data } (by simp) rfl _ rfl
        obtain ⟨ysl, ha, hy⟩ := hL.puts [5, 6, 7, 8, 9, 10, 11, 12, 13, 14, 15, 16, 17, 18, 19, 20, 21, 22] (by kernel_rfl)
        have e4 : ysl 9 = .pointer (some ⟨m, 3, none⟩) := (hy 9).symm.trans d4
        clear hdep hL hy d4
        simp only [List.foldl, List.setIfInBounds_toArray, List.set_cons_succ, List.set_cons_zero, e4] at ha
        subst ha
        clear e4
        have hm := HM.out.but hB (by simp) (by simp) (by simp) (by simp)
        have c := hm.cel 3 (by decide)
        simp only [mCells, List.getElem?_cons_succ, List.getElem?_cons_zero] at c
        clear hm
        refine wpOp_step rfl (fun K hK => ?_)
        go_simp
        exact hK _ _ ⟨_, rfl, (fun h => by cases h), (by first | rfl | (exact congrArg (Value.int .i64) (by rw [IntWalk.i64_left, IntWalk.wrap64_in _ (by omega)])) | simp), But.refl _ _, trivial⟩
      · cases ho
        intro fu act u hW hB hsz hL hdep
        replace hB := hB [] (fun j hj hd k hk => by cases hk)
        obtain ⟨ysl, ha, hy⟩ := hL.puts [5, 6, 7, 8, 9, 10, 11, 12, 13, 14, 15, 16, 17, 18, 19, 20, 21, 22] (by kernel_rfl)
        clear hdep hL hy
        simp only [List.foldl, List.setIfInBounds_toArray, List.set_cons_succ, List.set_cons_zero] at ha
        subst ha
        refine wpOp_step rfl (fun K hK => ?_)
        go_simp
        exact hK _ _ ⟨_, rfl, (fun h => by cases h), (by first | rfl | (exact congrArg (Value.int .i64) (by rw [IntWalk.i64_left, IntWalk.wrap64_in _ (by omega)])) | simp), But.refl _ _, trivial⟩
      · cases ho
        intro fu act u hW hB hsz hL hdep
        replace hB := hB [] (fun j hj hd k hk => by cases hk)
        obtain ⟨ysl, ha, hy⟩ := hL.puts [5, 6, 7, 8, 9, 10, 11, 12, 13, 14, 15, 16, 17, 18, 19, 20, 21, 22] (by kernel_rfl)
        clear hdep hL hy
        simp only [List.foldl, List.setIfInBounds_toArray, List.set_cons_succ, List.set_cons_zero] at ha
        subst ha
        refine wpOp_step rfl (fun K hK => ?_)
        go_simp
        exact hK _ _ ⟨_, rfl, (fun h => by cases h), (by first | rfl | (exact congrArg (Value.int .i64) (by rw [IntWalk.i64_left, IntWalk.wrap64_in _ (by omega)])) | simp), But.refl _ _, trivial⟩
      · cases ho
        intro fu act u hW hB hsz hL hdep
        replace hB := hB [] (fun j hj hd k hk => by cases hk)
        have d7 := hdep { on := 7, ground := .data } (by simp) rfl _ rfl
        obtain ⟨ysl, ha, hy⟩ := hL.puts [5, 6, 7, 8, 9, 10, 11, 12, 13, 14, 15, 16, 17, 18, 19, 20, 21, 22] (by kernel_rfl)
        have e7 : ysl 12 = .pointer (some ⟨m, 0, none⟩) := (hy 12).symm.trans d7
        clear hdep hL hy d7
        simp only [List.foldl, List.setIfInBounds_toArray, List.set_cons_succ, List.set_cons_zero, e7] at ha
        subst ha
        clear e7
        refine wpOp_step rfl (fun K hK => ?_)
        go_simp
        exact hK _ _ ⟨_, rfl, (fun h => by cases h), (by first | rfl | (exact congrArg (Value.int .i64) (by rw [IntWalk.i64_left, IntWalk.wrap64_in _ (by omega)])) | simp), But.refl _ _, trivial⟩
      · cases ho
        intro fu act u hW hB hsz hL hdep
        replace hB := hB [] (fun j hj hd k hk => by cases hk)
        have d8 := hdep { on := 8, ground := .data } (by simp) rfl _ rfl
        obtain ⟨ysl, ha, hy⟩ := hL.puts [5, 6, 7, 8, 9, 10, 11, 12, 13, 14, 15, 16, 17, 18, 19, 20, 21, 22] (by kernel_rfl)
        have e8 : ysl 13 = .pointer (some ⟨m, 0, none⟩) := (hy 13).symm.trans d8
        clear hdep hL hy d8
        simp only [List.foldl, List.setIfInBounds_toArray, List.set_cons_succ, List.set_cons_zero, e8] at ha
        subst ha
        clear e8
        refine wpOp_step rfl (fun K hK => ?_)
        go_simp
        exact hK _ _ ⟨_, rfl, (fun h => by cases h), (by first | rfl | (exact congrArg (Value.int .i64) (by rw [IntWalk.i64_left, IntWalk.wrap64_in _ (by omega)])) | simp), But.refl _ _, trivial⟩
      · cases ho
        intro fu act u hW hB hsz hL hdep
        replace hB := hB [] (fun j hj hd k hk => by cases hk)
        have d9 := hdep { on := 9, ground := .data } (by simp) rfl _ rfl
        obtain ⟨ysl, ha, hy⟩ := hL.puts [5, 6, 7, 8, 9, 10, 11, 12, 13, 14, 15, 16, 17, 18, 19, 20, 21, 22] (by kernel_rfl)
        have e9 : ysl 14 = .pointer (some ⟨m, 0, none⟩) := (hy 14).symm.trans d9
        clear hdep hL hy d9
        simp only [List.foldl, List.setIfInBounds_toArray, List.set_cons_succ, List.set_cons_zero, e9] at ha
        subst ha
        clear e9
        refine wpOp_step rfl (fun K hK => ?_)
        go_simp
        exact hK _ _ ⟨_, rfl, (fun h => by cases h), (by first | rfl | (exact congrArg (Value.int .i64) (by rw [IntWalk.i64_left, IntWalk.wrap64_in _ (by omega)])) | simp), But.refl _ _, trivial⟩
      · cases ho
        intro fu act u hW hB hsz hL hdep
        replace hB := hB [] (fun j hj hd k hk => by cases hk)
        have d10 := hdep { on := 10, ground := .data } (by simp) rfl _ rfl
        obtain ⟨ysl, ha, hy⟩ := hL.puts [5, 6, 7, 8, 9, 10, 11, 12, 13, 14, 15, 16, 17, 18, 19, 20, 21, 22] (by kernel_rfl)
        have e10 : ysl 15 = .pointer (some ⟨m, 0, none⟩) := (hy 15).symm.trans d10
        clear hdep hL hy d10
        simp only [List.foldl, List.setIfInBounds_toArray, List.set_cons_succ, List.set_cons_zero, e10] at ha
        subst ha
        clear e10
        have hm := HM.out.but hB (by simp) (by simp) (by simp) (by simp)
        have c := hm.cel 0 (by decide)
        simp only [mCells, List.getElem?_cons_succ, List.getElem?_cons_zero] at c
        clear hm
        refine wpOp_step rfl (fun K hK => ?_)
        go_simp
        exact hK _ _ ⟨_, rfl, (fun h => by cases h), (by first | rfl | (exact congrArg (Value.int .i64) (by rw [IntWalk.i64_left, IntWalk.wrap64_in _ (by omega)])) | simp), But.refl _ _, trivial⟩
      · cases ho
        intro fu act u hW hB hsz hL hdep
        replace hB := hB [] (fun j hj hd k hk => by cases hk)
        have d6 := hdep { on := 6, ground := .data } (by simp) rfl _ rfl
        have d11 := hdep { on := 11, ground := .data } (by simp) rfl _ rfl
        obtain ⟨ysl, ha, hy⟩ := hL.puts [5, 6, 7, 8, 9, 10, 11, 12, 13, 14, 15, 16, 17, 18, 19, 20, 21, 22] (by kernel_rfl)
        have e6 : ysl 11 = .pointer (some ⟨m, 0, none⟩) := (hy 11).symm.trans d6
        have e11 : ysl 16 = .int .i64 s.pc := (hy 16).symm.trans d11
        clear hdep hL hy d6 d11
        simp only [List.foldl, List.setIfInBounds_toArray, List.set_cons_succ, List.set_cons_zero, e6, e11] at ha
        subst ha
        clear e6 e11
        refine wpOp_step rfl (fun K hK => ?_)
        go_simp
        have E := impl_see u m gr gc gm cr cc cm s e (nx s) (HM.out.but hB (by simp) (by simp) (by simp) (by simp)) HK.out s.pc false 2 (by omega) (by omega)
        rw [HAT.out] at E
        refine E.mono ?_
        clear E
        rintro r u' ⟨hd, f'⟩
        rcases hd with ⟨hn, rfl⟩ | ⟨hn, rfl⟩
        · simp only [trapE]
          go_simp
          exact ⟨rfl, .inl ⟨by rw [HAT.out]; exact hneg, rfl, (HM.out.but hB (by simp) (by simp) (by simp) (by simp)).fr f', (But.of HF.out).trans ((hB.up (fun k hk => by cases hk)).trans (But.of f'))⟩⟩
        · exact absurd hneg (by omega)
      · cases ho
        intro fu act u hW hB hsz hL hdep
        exact (show False from hdep { on := 12, ground := .data } (by simp) rfl _ rfl).elim
      · cases ho
        intro fu act u hW hB hsz hL hdep
        exact (show False from hdep { on := 13, ground := .data } (by simp) rfl _ rfl).elim
      · cases ho
        intro fu act u hW hB hsz hL hdep
        exact (show False from hdep { on := 12, ground := .phase } (by simp) rfl _ rfl).elim
      · cases ho
        intro fu act u hW hB hsz hL hdep
        exact (show False from hdep { on := 15, ground := .data } (by simp) rfl _ rfl).elim
      · cases ho
        intro fu act u hW hB hsz hL hdep
        exact (show False from hdep { on := 16, ground := .data } (by simp) rfl _ rfl).elim
      · cases ho
        intro fu act u hW hB hsz hL hdep
        exact (show False from hdep { on := 17, ground := .data } (by simp) rfl _ rfl).elim
      · exact absurd ho (by simp)
    case fin =>
      intro act u hW hsz hB hL hsf
      exact (show False from hsf 12 _ rfl).elim
  · refine wp_region_lots2 36 (fun i => if i = 18 then [m] else []) (fun _ _ => True) (fun i v u => match i with | 0 => v = .pointer (some ⟨m, 0, none⟩) | 1 => v = .pointer (some ⟨m, 0, none⟩) | 2 => v = .pointer (some ⟨m, 0, none⟩) | 3 => v = .pointer (some ⟨m, 0, none⟩) | 4 => v = .pointer (some ⟨m, 3, none⟩) | 5 => v = .slice (some ⟨gm, 0, none⟩) 256 cm | 6 => v = .pointer (some ⟨m, 0, none⟩) | 7 => v = .pointer (some ⟨m, 0, none⟩) | 8 => v = .pointer (some ⟨m, 0, none⟩) | 9 => v = .pointer (some ⟨m, 0, none⟩) | 10 => v = .pointer (some ⟨m, 0, none⟩) | 11 => v = .int .i64 s.pc | 12 => v = .int .i64 AT0 | 13 => v = .pointer (some ⟨gm, AT0.toNat, none⟩) | 14 => v = .int .i64 wv | 15 => v = .pointer (some ⟨m, 0, none⟩) | 16 => v = .pointer (some ⟨m, 4, none⟩) | 17 => v = .pointer (some ⟨m, 5, none⟩) | 18 => (True ∧ Mx u m gr gc gm cr cc cm s { e with w := wv } (nx s)) | _ => True) ?mono (by kernel_rfl) (by kernel_rfl) rfl (by kernel_rfl) trivial ?step ?fin
    case mono =>
      intro i j v u u' hij hsz h hB
      rcases j with _ | _ | _ | _ | _ | _ | _ | _ | _ | _ | _ | _ | _ | _ | _ | _ | _ | _ | _ | j
      · exact h
      · exact h
      · exact h
      · exact h
      · exact h
      · exact h
      · exact h
      · exact h
      · exact h
      · exact h
      · exact h
      · exact h
      · exact h
      · exact h
      · exact h
      · exact h
      · exact h
      · exact h
      · exact (by have hB2 : But [] u u' := (by have hx := hB; simp only [if_neg hij] at hx; exact hx); exact ⟨trivial, h.2.but hB2 (by simp) (by simp) (by simp) (by simp)⟩)
      · trivial
    case step =>
      intro i o ho
      rcases i with _ | _ | _ | _ | _ | _ | _ | _ | _ | _ | _ | _ | _ | _ | _ | _ | _ | _ | _ | i
      · cases ho
        intro fu act u hW hB hsz hL hdep
        replace hB := hB [] (fun j hj hd k hk => by
          by_cases xz : j = 18
          · subst xz; exact (depT_no hd (by kernel_rfl)).elim
          rw [if_neg xz] at hk; cases hk)
        obtain ⟨ysl, ha, hy⟩ := hL.puts [5, 6, 7, 8, 9, 10, 11, 12, 13, 14, 15, 16, 17, 18, 19, 20, 21, 22] (by kernel_rfl)
        clear hdep hL hy
        simp only [List.foldl, List.setIfInBounds_toArray, List.set_cons_succ, List.set_cons_zero] at ha
        subst ha
        refine wpOp_step rfl (fun K hK => ?_)
        go_simp
        exact hK _ _ ⟨_, rfl, (fun h => by cases h), (by first | rfl | (exact congrArg (Value.int .i64) (by rw [IntWalk.i64_left, IntWalk.wrap64_in _ (by omega)])) | simp), But.refl _ _, trivial⟩
      · cases ho
        intro fu act u hW hB hsz hL hdep
        replace hB := hB [] (fun j hj hd k hk => by
          by_cases xz : j = 18
          · subst xz; exact (depT_no hd (by kernel_rfl)).elim
          rw [if_neg xz] at hk; cases hk)
        obtain ⟨ysl, ha, hy⟩ := hL.puts [5, 6, 7, 8, 9, 10, 11, 12, 13, 14, 15, 16, 17, 18, 19, 20, 21, 22] (by kernel_rfl)
        clear hdep hL hy
        simp only [List.foldl, List.setIfInBounds_toArray, List.set_cons_succ, List.set_cons_zero] at ha
        subst ha
        refine wpOp_step rfl (fun K hK => ?_)
        go_simp
        exact hK _ _ ⟨_, rfl, (fun h => by cases h), (by first | rfl | (exact congrArg (Value.int .i64) (by rw [IntWalk.i64_left, IntWalk.wrap64_in _ (by omega)])) | simp), But.refl _ _, trivial⟩
      · cases ho
        intro fu act u hW hB hsz hL hdep
        replace hB := hB [] (fun j hj hd k hk => by
          by_cases xz : j = 18
          · subst xz; exact (depT_no hd (by kernel_rfl)).elim
          rw [if_neg xz] at hk; cases hk)
        have d1 := hdep { on := 1, ground := .data } (by simp) rfl _ rfl
        obtain ⟨ysl, ha, hy⟩ := hL.puts [5, 6, 7, 8, 9, 10, 11, 12, 13, 14, 15, 16, 17, 18, 19, 20, 21, 22] (by kernel_rfl)
        have e1 : ysl 6 = .pointer (some ⟨m, 0, none⟩) := (hy 6).symm.trans d1
        clear hdep hL hy d1
        simp only [List.foldl, List.setIfInBounds_toArray, List.set_cons_succ, List.set_cons_zero, e1] at ha
        subst ha
        clear e1
        refine wpOp_step rfl (fun K hK => ?_)
        go_simp
        exact hK _ _ ⟨_, rfl, (fun h => by cases h), (by first | rfl | (exact congrArg (Value.int .i64) (by rw [IntWalk.i64_left, IntWalk.wrap64_in _ (by omega)])) | simp), But.refl _ _, trivial⟩
      · cases ho
        intro fu act u hW hB hsz hL hdep
        replace hB := hB [] (fun j hj hd k hk => by
          by_cases xz : j = 18
          · subst xz; exact (depT_no hd (by kernel_rfl)).elim
          rw [if_neg xz] at hk; cases hk)
        have d2 := hdep { on := 2, ground := .data } (by simp) rfl _ rfl
        obtain ⟨ysl, ha, hy⟩ := hL.puts [5, 6, 7, 8, 9, 10, 11, 12, 13, 14, 15, 16, 17, 18, 19, 20, 21, 22] (by kernel_rfl)
        have e2 : ysl 7 = .pointer (some ⟨m, 0, none⟩) := (hy 7).symm.trans d2
        clear hdep hL hy d2
        simp only [List.foldl, List.setIfInBounds_toArray, List.set_cons_succ, List.set_cons_zero, e2] at ha
        subst ha
        clear e2
        refine wpOp_step rfl (fun K hK => ?_)
        go_simp
        exact hK _ _ ⟨_, rfl, (fun h => by cases h), (by first | rfl | (exact congrArg (Value.int .i64) (by rw [IntWalk.i64_left, IntWalk.wrap64_in _ (by omega)])) | simp), But.refl _ _, trivial⟩
      · cases ho
        intro fu act u hW hB hsz hL hdep
        replace hB := hB [] (fun j hj hd k hk => by
          by_cases xz : j = 18
          · subst xz; exact (depT_no hd (by kernel_rfl)).elim
          rw [if_neg xz] at hk; cases hk)
        have d3 := hdep { on := 3, ground := .data } (by simp) rfl _ rfl
        obtain ⟨ysl, ha, hy⟩ := hL.puts [5, 6, 7, 8, 9, 10, 11, 12, 13, 14, 15, 16, 17, 18, 19, 20, 21, 22] (by kernel_rfl)
        have e3 : ysl 8 = .pointer (some ⟨m, 0, none⟩) := (hy 8).symm.trans d3
        clear hdep hL hy d3
        simp only [List.foldl, List.setIfInBounds_toArray, List.set_cons_succ, List.set_cons_zero, e3] at ha
        subst ha
        clear e3
        refine wpOp_step rfl (fun K hK => ?_)
        go_simp
        exact hK _ _ ⟨_, rfl, (fun h => by cases h), (by first | rfl | (exact congrArg (Value.int .i64) (by rw [IntWalk.i64_left, IntWalk.wrap64_in _ (by omega)])) | simp), But.refl _ _, trivial⟩
      · cases ho
        intro fu act u hW hB hsz hL hdep
        replace hB := hB [] (fun j hj hd k hk => by
          by_cases xz : j = 18
          · subst xz; exact (depT_no hd (by kernel_rfl)).elim
          rw [if_neg xz] at hk; cases hk)
        have d4 := hdep { on := 4, ground := .data } (by simp) rfl _ rfl
        obtain ⟨ysl, ha, hy⟩ := hL.puts [5, 6, 7, 8, 9, 10, 11, 12, 13, 14, 15, 16, 17, 18, 19, 20, 21, 22] (by kernel_rfl)
        have e4 : ysl 9 = .pointer (some ⟨m, 3, none⟩) := (hy 9).symm.trans d4
        clear hdep hL hy d4
        simp only [List.foldl, List.setIfInBounds_toArray, List.set_cons_succ, List.set_cons_zero, e4] at ha
        subst ha
        clear e4
        have hm := HM.out.but hB (by simp) (by simp) (by simp) (by simp)
        have c := hm.cel 3 (by decide)
        simp only [mCells, List.getElem?_cons_succ, List.getElem?_cons_zero] at c
        clear hm
        refine wpOp_step rfl (fun K hK => ?_)
        go_simp
        exact hK _ _ ⟨_, rfl, (fun h => by cases h), (by first | rfl | (exact congrArg (Value.int .i64) (by rw [IntWalk.i64_left, IntWalk.wrap64_in _ (by omega)])) | simp), But.refl _ _, trivial⟩
      · cases ho
        intro fu act u hW hB hsz hL hdep
        replace hB := hB [] (fun j hj hd k hk => by
          by_cases xz : j = 18
          · subst xz; exact (depT_no hd (by kernel_rfl)).elim
          rw [if_neg xz] at hk; cases hk)
        obtain ⟨ysl, ha, hy⟩ := hL.puts [5, 6, 7, 8, 9, 10, 11, 12, 13, 14, 15, 16, 17, 18, 19, 20, 21, 22] (by kernel_rfl)
        clear hdep hL hy
        simp only [List.foldl, List.setIfInBounds_toArray, List.set_cons_succ, List.set_cons_zero] at ha
        subst ha
        refine wpOp_step rfl (fun K hK => ?_)
        go_simp
        exact hK _ _ ⟨_, rfl, (fun h => by cases h), (by first | rfl | (exact congrArg (Value.int .i64) (by rw [IntWalk.i64_left, IntWalk.wrap64_in _ (by omega)])) | simp), But.refl _ _, trivial⟩
      · cases ho
        intro fu act u hW hB hsz hL hdep
        replace hB := hB [] (fun j hj hd k hk => by
          by_cases xz : j = 18
          · subst xz; exact (depT_no hd (by kernel_rfl)).elim
          rw [if_neg xz] at hk; cases hk)
        obtain ⟨ysl, ha, hy⟩ := hL.puts [5, 6, 7, 8, 9, 10, 11, 12, 13, 14, 15, 16, 17, 18, 19, 20, 21, 22] (by kernel_rfl)
        clear hdep hL hy
        simp only [List.foldl, List.setIfInBounds_toArray, List.set_cons_succ, List.set_cons_zero] at ha
        subst ha
        refine wpOp_step rfl (fun K hK => ?_)
        go_simp
        exact hK _ _ ⟨_, rfl, (fun h => by cases h), (by first | rfl | (exact congrArg (Value.int .i64) (by rw [IntWalk.i64_left, IntWalk.wrap64_in _ (by omega)])) | simp), But.refl _ _, trivial⟩
      · cases ho
        intro fu act u hW hB hsz hL hdep
        replace hB := hB [] (fun j hj hd k hk => by
          by_cases xz : j = 18
          · subst xz; exact (depT_no hd (by kernel_rfl)).elim
          rw [if_neg xz] at hk; cases hk)
        have d7 := hdep { on := 7, ground := .data } (by simp) rfl _ rfl
        obtain ⟨ysl, ha, hy⟩ := hL.puts [5, 6, 7, 8, 9, 10, 11, 12, 13, 14, 15, 16, 17, 18, 19, 20, 21, 22] (by kernel_rfl)
        have e7 : ysl 12 = .pointer (some ⟨m, 0, none⟩) := (hy 12).symm.trans d7
        clear hdep hL hy d7
        simp only [List.foldl, List.setIfInBounds_toArray, List.set_cons_succ, List.set_cons_zero, e7] at ha
        subst ha
        clear e7
        refine wpOp_step rfl (fun K hK => ?_)
        go_simp
        exact hK _ _ ⟨_, rfl, (fun h => by cases h), (by first | rfl | (exact congrArg (Value.int .i64) (by rw [IntWalk.i64_left, IntWalk.wrap64_in _ (by omega)])) | simp), But.refl _ _, trivial⟩
      · cases ho
        intro fu act u hW hB hsz hL hdep
        replace hB := hB [] (fun j hj hd k hk => by
          by_cases xz : j = 18
          · subst xz; exact (depT_no hd (by kernel_rfl)).elim
          rw [if_neg xz] at hk; cases hk)
        have d8 := hdep { on := 8, ground := .data } (by simp) rfl _ rfl
        obtain ⟨ysl, ha, hy⟩ := hL.puts [5, 6, 7, 8, 9, 10, 11, 12, 13, 14, 15, 16, 17, 18, 19, 20, 21, 22] (by kernel_rfl)
        have e8 : ysl 13 = .pointer (some ⟨m, 0, none⟩) := (hy 13).symm.trans d8
        clear hdep hL hy d8
        simp only [List.foldl, List.setIfInBounds_toArray, List.set_cons_succ, List.set_cons_zero, e8] at ha
        subst ha
        clear e8
        refine wpOp_step rfl (fun K hK => ?_)
        go_simp
        exact hK _ _ ⟨_, rfl, (fun h => by cases h), (by first | rfl | (exact congrArg (Value.int .i64) (by rw [IntWalk.i64_left, IntWalk.wrap64_in _ (by omega)])) | simp), But.refl _ _, trivial⟩
      · cases ho
        intro fu act u hW hB hsz hL hdep
        replace hB := hB [] (fun j hj hd k hk => by
          by_cases xz : j = 18
          · subst xz; exact (depT_no hd (by kernel_rfl)).elim
          rw [if_neg xz] at hk; cases hk)
        have d9 := hdep { on := 9, ground := .data } (by simp) rfl _ rfl
        obtain ⟨ysl, ha, hy⟩ := hL.puts [5, 6, 7, 8, 9, 10, 11, 12, 13, 14, 15, 16, 17, 18, 19, 20, 21, 22] (by kernel_rfl)
        have e9 : ysl 14 = .pointer (some ⟨m, 0, none⟩) := (hy 14).symm.trans d9
        clear hdep hL hy d9
        simp only [List.foldl, List.setIfInBounds_toArray, List.set_cons_succ, List.set_cons_zero, e9] at ha
        subst ha
        clear e9
        refine wpOp_step rfl (fun K hK => ?_)
        go_simp
        exact hK _ _ ⟨_, rfl, (fun h => by cases h), (by first | rfl | (exact congrArg (Value.int .i64) (by rw [IntWalk.i64_left, IntWalk.wrap64_in _ (by omega)])) | simp), But.refl _ _, trivial⟩
      · cases ho
        intro fu act u hW hB hsz hL hdep
        replace hB := hB [] (fun j hj hd k hk => by
          by_cases xz : j = 18
          · subst xz; exact (depT_no hd (by kernel_rfl)).elim
          rw [if_neg xz] at hk; cases hk)
        have d10 := hdep { on := 10, ground := .data } (by simp) rfl _ rfl
        obtain ⟨ysl, ha, hy⟩ := hL.puts [5, 6, 7, 8, 9, 10, 11, 12, 13, 14, 15, 16, 17, 18, 19, 20, 21, 22] (by kernel_rfl)
        have e10 : ysl 15 = .pointer (some ⟨m, 0, none⟩) := (hy 15).symm.trans d10
        clear hdep hL hy d10
        simp only [List.foldl, List.setIfInBounds_toArray, List.set_cons_succ, List.set_cons_zero, e10] at ha
        subst ha
        clear e10
        have hm := HM.out.but hB (by simp) (by simp) (by simp) (by simp)
        have c := hm.cel 0 (by decide)
        simp only [mCells, List.getElem?_cons_succ, List.getElem?_cons_zero] at c
        clear hm
        refine wpOp_step rfl (fun K hK => ?_)
        go_simp
        exact hK _ _ ⟨_, rfl, (fun h => by cases h), (by first | rfl | (exact congrArg (Value.int .i64) (by rw [IntWalk.i64_left, IntWalk.wrap64_in _ (by omega)])) | simp), But.refl _ _, trivial⟩
      · cases ho
        intro fu act u hW hB hsz hL hdep
        replace hB := hB [] (fun j hj hd k hk => by
          by_cases xz : j = 18
          · subst xz; exact (depT_no hd (by kernel_rfl)).elim
          rw [if_neg xz] at hk; cases hk)
        have d6 := hdep { on := 6, ground := .data } (by simp) rfl _ rfl
        have d11 := hdep { on := 11, ground := .data } (by simp) rfl _ rfl
        obtain ⟨ysl, ha, hy⟩ := hL.puts [5, 6, 7, 8, 9, 10, 11, 12, 13, 14, 15, 16, 17, 18, 19, 20, 21, 22] (by kernel_rfl)
        have e6 : ysl 11 = .pointer (some ⟨m, 0, none⟩) := (hy 11).symm.trans d6
        have e11 : ysl 16 = .int .i64 s.pc := (hy 16).symm.trans d11
        clear hdep hL hy d6 d11
        simp only [List.foldl, List.setIfInBounds_toArray, List.set_cons_succ, List.set_cons_zero, e6, e11] at ha
        subst ha
        clear e6 e11
        refine wpOp_step rfl (fun K hK => ?_)
        go_simp
        have E := impl_see u m gr gc gm cr cc cm s e (nx s) (HM.out.but hB (by simp) (by simp) (by simp) (by simp)) HK.out s.pc false 2 (by omega) (by omega)
        rw [HAT.out] at E
        refine E.mono ?_
        clear E
        rintro r u' ⟨hd, f'⟩
        rcases hd with ⟨hn, rfl⟩ | ⟨hn, rfl⟩
        · exact absurd hn (by omega)
        · go_simp
          exact hK _ _ ⟨_, rfl, (fun h => by cases h), rfl, But.of f', trivial⟩
      · cases ho
        intro fu act u hW hB hsz hL hdep
        replace hB := hB [] (fun j hj hd k hk => by
          by_cases xz : j = 18
          · subst xz; exact (depT_no hd (by kernel_rfl)).elim
          rw [if_neg xz] at hk; cases hk)
        have d5 := hdep { on := 5, ground := .data } (by simp) rfl _ rfl
        have d12 := hdep { on := 12, ground := .data } (by simp) rfl _ rfl
        obtain ⟨ysl, ha, hy⟩ := hL.puts [5, 6, 7, 8, 9, 10, 11, 12, 13, 14, 15, 16, 17, 18, 19, 20, 21, 22] (by kernel_rfl)
        have e5 : ysl 10 = .slice (some ⟨gm, 0, none⟩) 256 cm := (hy 10).symm.trans d5
        have e12 : ysl 17 = .int .i64 AT0 := (hy 17).symm.trans d12
        clear hdep hL hy d5 d12
        simp only [List.foldl, List.setIfInBounds_toArray, List.set_cons_succ, List.set_cons_zero, e5, e12] at ha
        subst ha
        clear e5 e12
        have ix0 : 0 ≤ AT0 := by omega
        have ix1 : AT0 < 256 := by omega
        refine wpOp_step rfl (fun K hK => ?_)
        go_simp
        exact hK _ _ ⟨_, rfl, (fun h => by cases h), (by first | rfl | (exact congrArg (Value.int .i64) (by rw [IntWalk.i64_left, IntWalk.wrap64_in _ (by omega)])) | simp), But.refl _ _, trivial⟩
      · cases ho
        intro fu act u hW hB hsz hL hdep
        replace hB := hB [] (fun j hj hd k hk => by
          by_cases xz : j = 18
          · subst xz; exact (depT_no hd (by kernel_rfl)).elim
          rw [if_neg xz] at hk; cases hk)
        have d13 := hdep { on := 13, ground := .data } (by simp) rfl _ rfl
        obtain ⟨ysl, ha, hy⟩ := hL.puts [5, 6, 7, 8, 9, 10, 11, 12, 13, 14, 15, 16, 17, 18, 19, 20, 21, 22] (by kernel_rfl)
        have e13 : ysl 18 = .pointer (some ⟨gm, AT0.toNat, none⟩) := (hy 18).symm.trans d13
        clear hdep hL hy d13
        simp only [List.foldl, List.setIfInBounds_toArray, List.set_cons_succ, List.set_cons_zero, e13] at ha
        subst ha
        clear e13
        have hm := HM.out.but hB (by simp) (by simp) (by simp) (by simp)
        have c := hm.ow.M.cel (AT0.toNat) (by have h1 := HK.out.Rl; have h2 := HK.out.Cl; have h3 := HK.out.Ml; omega)
        clear hm
        rw [hwv] at c
        refine wpOp_step rfl (fun K hK => ?_)
        go_simp
        exact hK _ _ ⟨_, rfl, (fun h => by cases h), (by first | rfl | (exact congrArg (Value.int .i64) (by rw [IntWalk.i64_left, IntWalk.wrap64_in _ (by omega)])) | simp), But.refl _ _, trivial⟩
      · cases ho
        intro fu act u hW hB hsz hL hdep
        replace hB := hB [] (fun j hj hd k hk => by
          by_cases xz : j = 18
          · subst xz; exact (depT_no hd (by kernel_rfl)).elim
          rw [if_neg xz] at hk; cases hk)
        have d0 := hdep { on := 0, ground := .data } (by simp) rfl _ rfl
        obtain ⟨ysl, ha, hy⟩ := hL.puts [5, 6, 7, 8, 9, 10, 11, 12, 13, 14, 15, 16, 17, 18, 19, 20, 21, 22] (by kernel_rfl)
        have e0 : ysl 5 = .pointer (some ⟨m, 0, none⟩) := (hy 5).symm.trans d0
        clear hdep hL hy d0
        simp only [List.foldl, List.setIfInBounds_toArray, List.set_cons_succ, List.set_cons_zero, e0] at ha
        subst ha
        clear e0
        refine wpOp_step rfl (fun K hK => ?_)
        go_simp
        exact hK _ _ ⟨_, rfl, (fun h => by cases h), (by first | rfl | (exact congrArg (Value.int .i64) (by rw [IntWalk.i64_left, IntWalk.wrap64_in _ (by omega)])) | simp), But.refl _ _, trivial⟩
      · cases ho
        intro fu act u hW hB hsz hL hdep
        replace hB := hB [] (fun j hj hd k hk => by
          by_cases xz : j = 18
          · subst xz; exact (depT_no hd (by kernel_rfl)).elim
          rw [if_neg xz] at hk; cases hk)
        have d15 := hdep { on := 15, ground := .data } (by simp) rfl _ rfl
        obtain ⟨ysl, ha, hy⟩ := hL.puts [5, 6, 7, 8, 9, 10, 11, 12, 13, 14, 15, 16, 17, 18, 19, 20, 21, 22] (by kernel_rfl)
        have e15 : ysl 20 = .pointer (some ⟨m, 0, none⟩) := (hy 20).symm.trans d15
        clear hdep hL hy d15
        simp only [List.foldl, List.setIfInBounds_toArray, List.set_cons_succ, List.set_cons_zero, e15] at ha
        subst ha
        clear e15
        refine wpOp_step rfl (fun K hK => ?_)
        go_simp
        exact hK _ _ ⟨_, rfl, (fun h => by cases h), (by first | rfl | (exact congrArg (Value.int .i64) (by rw [IntWalk.i64_left, IntWalk.wrap64_in _ (by omega)])) | simp), But.refl _ _, trivial⟩
      · cases ho
        intro fu act u hW hB hsz hL hdep
        replace hB := hB [] (fun j hj hd k hk => by
          by_cases xz : j = 18
          · subst xz; exact (depT_no hd (by kernel_rfl)).elim
          rw [if_neg xz] at hk; cases hk)
        have d16 := hdep { on := 16, ground := .data } (by simp) rfl _ rfl
        obtain ⟨ysl, ha, hy⟩ := hL.puts [5, 6, 7, 8, 9, 10, 11, 12, 13, 14, 15, 16, 17, 18, 19, 20, 21, 22] (by kernel_rfl)
        have e16 : ysl 21 = .pointer (some ⟨m, 4, none⟩) := (hy 21).symm.trans d16
        clear hdep hL hy d16
        simp only [List.foldl, List.setIfInBounds_toArray, List.set_cons_succ, List.set_cons_zero, e16] at ha
        subst ha
        clear e16
        refine wpOp_step rfl (fun K hK => ?_)
        go_simp
        exact hK _ _ ⟨_, rfl, (fun h => by cases h), (by first | rfl | (exact congrArg (Value.int .i64) (by rw [IntWalk.i64_left, IntWalk.wrap64_in _ (by omega)])) | simp), But.refl _ _, trivial⟩
      · cases ho
        intro fu act u hW hB hsz hL hdep
        replace hB := hB [] (fun j hj hd k hk => by
          rw [if_neg hj] at hk; cases hk)
        have d14 := hdep { on := 14, ground := .data } (by simp) rfl _ rfl
        have d17 := hdep { on := 17, ground := .data } (by simp) rfl _ rfl
        obtain ⟨ysl, ha, hy⟩ := hL.puts [5, 6, 7, 8, 9, 10, 11, 12, 13, 14, 15, 16, 17, 18, 19, 20, 21, 22] (by kernel_rfl)
        have e14 : ysl 19 = .int .i64 wv := (hy 19).symm.trans d14
        have e17 : ysl 22 = .pointer (some ⟨m, 5, none⟩) := (hy 22).symm.trans d17
        clear hdep hL hy d14 d17
        simp only [List.foldl, List.setIfInBounds_toArray, List.set_cons_succ, List.set_cons_zero, e14, e17] at ha
        subst ha
        clear e14 e17
        have hm := (HM.out.but hB (by simp) (by simp) (by simp) (by simp))
        have c := hm.cel 5 (by decide)
        have c' := hm.fro 5 (by decide)
        simp only [mCells, List.getElem?_cons_succ, List.getElem?_cons_zero] at c
        refine wpOp_step rfl (fun K hK => ?_)
        go_simp
        exact hK _ _ ⟨undef, rfl, (fun _ => rfl), ⟨trivial, hm.set (s' := s) (e' := { e with w := wv }) (nx' := nx s) 5 (.int .i64 wv) (by decide) rfl rfl rfl rfl⟩, (But.refl [m] u).set m _ _ (.inl (by simp)), trivial⟩
      · exact absurd ho (by simp)
    case fin =>
      intro act u hW hsz hB hL hsf
      replace hB := hB [m] (fun j k hk => by
        by_cases yz : j = 18
        · rw [if_pos yz] at hk; exact hk
        rw [if_neg yz] at hk
        cases hk)
      have d18 := hsf 18 _ rfl
      obtain ⟨ysl, ha, hy⟩ := hL.puts [5, 6, 7, 8, 9, 10, 11, 12, 13, 14, 15, 16, 17, 18, 19, 20, 21, 22] (by kernel_rfl)
      clear hL hsf hy
      simp only [List.foldl, List.setIfInBounds_toArray, List.set_cons_succ, List.set_cons_zero] at ha
      subst ha
      obtain ⟨_, hM'⟩ := d18
      have HF2 := Lib.hid (But.of (L := [m, gr, gc, gm]) HF.out)
      have HB2 := Lib.hid (HF2.out.trans (hB.up (fun k hk => by simp at hk ⊢; omega)))
      have HT2 := Lib.hid (HT.out.but hB (fun k hk => by simp at hk; omega))
      have HX2 := Lib.hid (HX.out.but hB (by simp; omega))
      have HZ2 := Lib.hid (fun j : Nat => (hB.frozen (i := j) (show X < u0.heap.size from HX.out.lt) (by simp; omega)).trans (HZ0.out j))
      have HM2 := Lib.hid hM'
      have hs2 := hB.size
      have cw := hM'.cel 5 (by decide)
      simp only [mCells, List.getElem?_cons_succ, List.getElem?_cons_zero] at cw
      clear hM' hB hW HF HX HM HT HF2
      cases hgd : gd wv
      · go_wp2_with fail
        refine (impl_CodRead wv u HT2.out).mono ?_
        rintro r u' ⟨rfl, f'⟩
        rw [rV_f hgd]
        have HM3 := Lib.hid (HM2.out.fr f')
        have HB3 := Lib.hid (HB2.out.trans (But.of f'))
        clear f' cw
        go_wp2_with fail
        refine ⟨rfl, .inr (.inl ⟨by rw [HAT.out]; omega, by rw [HWA.out]; exact hgd, rfl, ?_, ?_⟩)⟩
        · rw [HWA.out]
          exact HM3.out.fr (Fr.alloc _ _)
        · exact HB3.out.trans (But.of (Fr.alloc _ _))
      · go_wp2_with fail
        refine (impl_CodRead wv u HT2.out).mono ?_
        rintro r u' ⟨rfl, f'⟩
        rw [rV_t hgd]
        have HM3 := Lib.hid (HM2.out.fr f')
        have HB3 := Lib.hid (HB2.out.trans (But.of f'))
        have HX3 := Lib.hid (HX2.out.fr f')
        have HZ3 := Lib.hid (fun j : Nat => (f'.frozen (p := ⟨X, j, none⟩) HX2.out.lt).trans (HZ2.out j))
        have z0 := HZ3.out 0
        have z1 := HZ3.out 1
        have z2 := HZ3.out 2
        have z3 := HZ3.out 3
        have z4 := HZ3.out 4
        have z5 := HZ3.out 5
        have hXl4 := HX3.out.lt
        have hxn : ¬ X = u'.heap.size := by omega
        have hxn2 : ¬ u'.heap.size = X := by omega
        have hXl3 := HX3.out.lt
        clear f' cw
        obtain ⟨x0, x1, x2, x3, x4, x5⟩ := HX3.out
        go_wp2_with fail
        refine bodyPost_ret (v := .agg #[.int .i64 (wv / 4096), .int .i64 (rdv wv 0), .int .i64 (rdv wv 1), .int .i64 (rdv wv 2), .int .i64 (rdv wv 3), .int .i64 (rdv wv 4)]) (by simp [results, Tryd.results76, go_sem, x0, x1, x2, x3, x4, x5, hxn, hxn2, hXl4]) rfl (.inr (.inr ⟨by rw [HAT.out]; omega, by rw [HWA.out]; exact hgd, by rw [HWA.out], ?_, ?_⟩))
        · rw [HWA.out]
          refine HM3.out.but (L := [X]) ?_ (by simp; omega) (by simp; omega) (by simp; omega) (by simp; omega)
          (repeat with_reducible first | exact But.refl _ _ | assumption | refine But.alloc ?_ _ | refine But.drew ?_ | refine But.drewN ?_ _ | refine But.set ?_ _ _ _ (by first | (left; simp; done) | (right; simp; done) | (right; omega) | (right; simp; omega)))
        · have q := HB3.out
          (repeat with_reducible first | exact But.refl _ _ | assumption | refine But.alloc ?_ _ | refine But.drew ?_ | refine But.drewN ?_ _ | refine But.set ?_ _ _ _ (by first | (left; simp; done) | (right; simp; done) | (right; omega) | (right; simp; omega)))

end Go.Proofs.YtbjapncfgancoaaDoor
