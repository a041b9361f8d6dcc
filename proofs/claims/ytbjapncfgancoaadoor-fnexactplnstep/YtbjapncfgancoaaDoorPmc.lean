/- A step of the program's machine. -/
import Derived.WalkSmall
import Derived.Test.YtbjapncfgancoaaDoorPmb
namespace Go.Proofs.YtbjapncfgancoaaDoor
open Go.RowKit
set_option linter.unusedVariables false
set_option linter.unusedSimpArgs false
/-- Behind a step: the machine did what a step does, or stopped. -/
def StepM (m gr gc gm cr cc cm : Nat) (s : St) (ring : Bool) (u : World) (r : Ending) (u' : World) : Prop :=
 r = .returned (.tuple #[]) ∧ (∃ nx', Mx u' m gr gc gm cr cc cm (stepS s ring).1 (stepS s ring).2 nx') ∧ But [m, gr, gc, gm] u u'
theorem OkS.lens {s : St} (h : OkS s) : Lens s := ⟨h.Rl, h.Cl, h.Ml⟩
structure Box1 (u : World) (g : Nat) (v : Value) : Prop where
 lt : g < u.heap.size
 c0 : u.cell? ⟨g, 0, none⟩ = some v
theorem Box1.but {L : List Nat} {u u' : World} {g : Nat} {v : Value} (h : Box1 u g v) (f : But L u u') (hn : g ∉ L) : Box1 u' g v :=
 ⟨Nat.lt_of_lt_of_le h.lt f.size, by rw [f.cell h.lt hn]; exact h.c0⟩
theorem Box1.fr {u u' : World} {g : Nat} {v : Value} (h : Box1 u g v) (f : Fr u u') : Box1 u' g v := h.but (L := []) (But.of f) (by simp)
theorem step_ring {s : St} {ring : Bool} (h : ring = true ∧ usr s.C = true) : stepS s ring = (stopS s 7, { ev0 s with why := 7 }) := if_pos h
theorem step_take {s : St} {ring : Bool} (h : ¬ (ring = true ∧ usr s.C = true)) (h1 : see s.C s.M s.pc false < 0) : stepS s ring = (stopS s 2, { ev0 s with why := 2 }) := by rw [stepS, if_neg h, if_pos h1]
theorem step_code {s : St} {ring : Bool} (h : ¬ (ring = true ∧ usr s.C = true)) (h1 : 0 ≤ see s.C s.M s.pc false) (h2 : gd (wAt s) = false) : stepS s ring = (stopS s 1, { ev1 s with why := 1 }) := by rw [stepS, if_neg h, if_neg (by omega), if_pos h2]
theorem step_exe {s : St} {ring : Bool} (h : ¬ (ring = true ∧ usr s.C = true)) (h1 : 0 ≤ see s.C s.M s.pc false) (h2 : gd (wAt s) = true) : stepS s ring = (exeS s).fin s (ev1 s) := by rw [stepS, if_neg h, if_neg (by omega), if_neg (by simp [h2])]
set_option maxHeartbeats 8000000 in
theorem run_eff (k : Int) (hk : 0 ≤ k ∧ k < 16) (m : Nat) (iv : Value) (o : Oper) (ev : Operand → Value) (x y : Operand) (ty : TypeId) (ho : o.op = .call { callee := .value x, args := #[y], argTypes := #[ty] })
  (hx : ev x = .func (.func (efF k)) #[.pointer (some ⟨m, 0, none⟩)] #[]) (hy : ev y = iv) (w : World) : (execOp ev o).run Tryd.prog w = .ok (.enter (efF k) #[.pointer (some ⟨m, 0, none⟩), iv]) w := by
 unfold execOp
 rw [ho]
 rcases kinds hk with rfl | rfl | rfl | rfl | rfl | rfl | rfl | rfl | rfl | rfl | rfl | rfl | rfl | rfl | rfl | rfl
 all_goals (simp [resolve, invoke, hx, hy, efF, go_sem]; done)
set_option maxRecDepth 8000 in
set_option maxHeartbeats 4000000 in
theorem impl_step_ring (u : World) (m gr gc gm cr cc cm : Nat) (s : St) (ring : Bool) (h : Mx u m gr gc gm cr cc cm s (ev0 s) (nx s)) (hk : OkS s) (hr : ring = true) (hu : usr s.C = true) :
  Calls Tryd.prog 51 #[.pointer (some ⟨m, 0, none⟩), .bool ring] u (StepM m gr gc gm cr cc cm s ring u) := by
 subst hr
 have HST := Lib.hid (step_ring (ring := true) ⟨rfl, hu⟩)
 have HU := Lib.hid hu
 have hmf : ∀ (fn : Fn) (first cap : Array Value) (w : World), (Instr.makeFunc fn first cap).run Tryd.prog w = .ok (.func fn first cap) w := fun _ _ _ _ => rfl
 have F0 := Fr.alloc u (.cells #[.pointer (some ⟨m, 0, none⟩)] 63)
 have HM := Lib.hid (h.fr F0)
 have HF := Lib.hid (But.of (L := [m, gr, gc, gm]) F0)
 have HK := Lib.hid hk
 have HX := Lib.hid (show Box1 (u.alloc (.cells #[.pointer (some ⟨m, 0, none⟩)] 63)) u.heap.size (.pointer (some ⟨m, 0, none⟩)) from ⟨by simp, by simp⟩)
 have hlm := h.lt
 have lr := h.ow.R.lt
 have lc := h.ow.C.lt
 have lm := h.ow.M.lt
 have n1 : ¬ u.heap.size = m := by omega
 have n2 : ¬ m = u.heap.size := by omega
 have E := Lib.hid (user_of (cr := cr) (cc := cc) (cm := cm) HM.out.ow hk)
 obtain ⟨c0, c1, c2, c3⟩ := h.four
 clear h F0 hk hu
 go_enter_defers Tryd.func51, Tryd.ntmps51
 go_wp2_with fail
 refine E.out.mono ?_
 rintro r u1 ⟨rfl, f1⟩
 rw [HU.out]
 have HM1 := Lib.hid (HM.out.fr f1)
 have HF1 := Lib.hid (HF.out.trans (But.of f1))
 have HX1 := Lib.hid (HX.out.fr f1)
 clear f1 c0 c1 c2 c3 n1 n2
 go_wp2
 refine leaves_cons (f := 73) (args := #[.pointer (some ⟨u.heap.size, 0, none⟩)]) (by simp) (by simp [go_sem]) ?_
 refine (step1_panics u.heap.size m gr gc gm cr cc cm s (ev0 s) (nx s) 7 _ HM1.out HK.out.lens (ok_get HK.out.C 3) HX1.out.c0).mono ?_
 rintro r u' w'' ⟨rfl, rfl, hMz, hBz⟩
 simp only [Leaves, settle, results, Tryd.results51]
 have hfin : StepM m gr gc gm cr cc cm s true u (.returned (.tuple #[])) w'' := by
  refine ⟨rfl, ⟨nx s, ?_⟩, HF1.out.trans hBz⟩
  rw [HST.out]
  exact hMz
 simp [go_sem, settle, Leaves, results]
 exact hfin
set_option maxRecDepth 8000 in
set_option maxHeartbeats 4000000 in
theorem impl_step_false (ub : World) (m gr gc gm cr cc cm : Nat) (s : St) (ring : Bool) (h : Mx ub m gr gc gm cr cc cm s (ev0 s) (nx s)) (hk : OkS s) (ht : Tabs ub) (hg : 2 ≤ m) (hr : ring = false) (hnr : ¬ (ring = true ∧ usr s.C = true)) :
  Calls Tryd.prog 51 #[.pointer (some ⟨m, 0, none⟩), .bool ring] ub (StepM m gr gc gm cr cc cm s ring ub) := by
 subst hr
 have HNR := Lib.hid hnr
 have hmf : ∀ (fn : Fn) (first cap : Array Value) (w : World), (Instr.makeFunc fn first cap).run Tryd.prog w = .ok (.func fn first cap) w := fun _ _ _ _ => rfl
 have F0 := Fr.alloc ub (.cells #[.pointer (some ⟨m, 0, none⟩)] 63)
 have HM := Lib.hid (h.fr F0)
 have HF := Lib.hid (But.of (L := [m, gr, gc, gm]) F0)
 have HK := Lib.hid hk
 have HX := Lib.hid (show Box1 (ub.alloc (.cells #[.pointer (some ⟨m, 0, none⟩)] 63)) ub.heap.size (.pointer (some ⟨m, 0, none⟩)) from ⟨by simp, by simp⟩)
 have hlm := h.lt
 have lr := h.ow.R.lt
 have lc := h.ow.C.lt
 have lm := h.ow.M.lt
 have n1 : ¬ ub.heap.size = m := by omega
 have n2 : ¬ m = ub.heap.size := by omega
 have HT := Lib.hid (ht.fr F0)
 obtain ⟨c0, c1, c2, c3⟩ := h.four
 clear h F0 hk hnr ht
 go_enter_defers Tryd.func51, Tryd.ntmps51
 go_wp2_with fail
 have HM1 := Lib.hid HM.out
 have HF1 := Lib.hid HF.out
 have HX1 := Lib.hid HX.out
 have HT1 := Lib.hid HT.out
 clear HM HF HX HT
 generalize (ub.alloc (.cells #[.pointer (some ⟨m, 0, none⟩)] 63)) = u1 at *
 refine (impl_fetch u1 m gr gc gm cr cc cm s (ev0 s) HM1.out HK.out HT1.out hg).mono ?_
 rintro r u2 hf
 clear c0 c1 c2 c3 n1 n2
 rcases hf with ⟨hs, rfl, hM2, hB2⟩ | ⟨hs, hgd, rfl, hM2, hB2⟩ | ⟨hs, hgd, rfl, hM2, hB2⟩
 ·have HST := Lib.hid (step_take (ring := false) (by have h := HNR.out; first | (simp; done) | (simpa using h)) hs)
  have HX2 := Lib.hid (HX1.out.but hB2 (by simp; omega))
  simp only [trapE]
  go_wp2
  refine leaves_cons (f := 73) (args := #[.pointer (some ⟨ub.heap.size, 0, none⟩)]) (by simp) (by simp [go_sem]) ?_
  refine (step1_panics ub.heap.size m gr gc gm cr cc cm s (ev0 s) (nx s) 2 _ hM2 HK.out.lens (ok_get HK.out.C 3) HX2.out.c0).mono ?_
  rintro r u' w'' ⟨rfl, rfl, hMz, hBz⟩
  simp only [Leaves, settle, results, Tryd.results51]
  have hfin : StepM m gr gc gm cr cc cm s false ub (.returned (.tuple #[])) w'' := by
   refine ⟨rfl, ⟨nx s, ?_⟩, (HF1.out.trans hB2).trans hBz⟩
   rw [HST.out]
   exact hMz
  simp [go_sem, settle, Leaves, results]
  exact hfin
 ·have HST := Lib.hid (step_code (ring := false) (by have h := HNR.out; first | (simp; done) | (simpa using h)) hs hgd)
  have HX2 := Lib.hid (HX1.out.but hB2 (by simp; omega))
  simp only [trapE]
  go_wp2
  refine leaves_cons (f := 73) (args := #[.pointer (some ⟨ub.heap.size, 0, none⟩)]) (by simp) (by simp [go_sem]) ?_
  refine (step1_panics ub.heap.size m gr gc gm cr cc cm s (ev1 s) (nx s) 1 _ hM2 HK.out.lens (ok_get HK.out.C 3) HX2.out.c0).mono ?_
  rintro r u' w'' ⟨rfl, rfl, hMz, hBz⟩
  simp only [Leaves, settle, results, Tryd.results51]
  have hfin : StepM m gr gc gm cr cc cm s false ub (.returned (.tuple #[])) w'' := by
   refine ⟨rfl, ⟨nx s, ?_⟩, (HF1.out.trans hB2).trans hBz⟩
   rw [HST.out]
   exact hMz
  simp [go_sem, settle, Leaves, results]
  exact hfin
 ·have HST := Lib.hid (step_exe (ring := false) (by have h := HNR.out; first | (simp; done) | (simpa using h)) hs hgd)
  have hi := (read_ok hgd).1
  have HX2 := Lib.hid (HX1.out.but hB2 (by simp; omega))
  have HF2 := Lib.hid (HF1.out.trans hB2)
  have HM2 := Lib.hid (show Mx u2 m gr gc gm cr cc cm s (ev1 s) (nx s) from hM2)
  have hs2 := hB2.size
  clear HM1 HX1 HF1 HT1 hM2 hB2 hs HNR
  unfold exeS at HST
  generalize wAt s / 4096 = k at *
  generalize rdv (wAt s) 0 = d at *
  generalize rdv (wAt s) 1 = a at *
  generalize rdv (wAt s) 2 = b at *
  generalize rdv (wAt s) 3 = f at *
  generalize rdv (wAt s) 4 = n at *
  obtain ⟨o, hoe⟩ : ∃ o, effS s (ev1 s) k d a b f n = o := ⟨_, rfl⟩
  rw [hoe] at HST
  have HO := Lib.hid hoe
  have hkb := iok_k hi
  clear hoe hgd
  go_wp2_with fail
  have HM := Lib.hid (HM2.out.fr (Fr.alloc u2 (.cells #[.int .i64 k, .int .i64 d, .int .i64 a, .int .i64 b, .int .i64 f, .int .i64 n] 48)))
  have HX := Lib.hid (HX2.out.fr (Fr.alloc u2 (.cells #[.int .i64 k, .int .i64 d, .int .i64 a, .int .i64 b, .int .i64 f, .int .i64 n] 48)))
  have HF := Lib.hid (HF2.out.trans (But.of (Fr.alloc u2 (.cells #[.int .i64 k, .int .i64 d, .int .i64 a, .int .i64 b, .int .i64 f, .int .i64 n] 48))))
  have HY := Lib.hid (Box.new u2 k d a b f n 48)
  have hl2 := HX2.out.lt
  clear HM2 HX2 HF2
  generalize (u2.alloc (.cells #[.int .i64 k, .int .i64 d, .int .i64 a, .int .i64 b, .int .i64 f, .int .i64 n] 48)) = u3 at *
  generalize u2.heap.size = Y at *
  refine wp_region_lots2 32 (fun i => if i = 6 then [m, gr, gc, gm] else []) (fun _ _ => True) (fun i v u => match i with | 0 => v = .pointer (some ⟨m, 0, none⟩) | 1 => v = .agg (effV m) | 2 => v = .pointer (some ⟨Y, 0, none⟩) | 3 => v = .int .i64 k | 4 => v = .func (.func (efF k)) #[.pointer (some ⟨m, 0, none⟩)] #[] | 5 => v = .agg #[.int .i64 k, .int .i64 d, .int .i64 a, .int .i64 b, .int .i64 f, .int .i64 n] | 6 => (v = .tuple #[] ∧ ∃ s' e', o = .go s' e' ∧ Mx u m gr gc gm cr cc cm ⟨s.pc, s'.R, s'.C, s'.M⟩ e' s'.pc) | _ => True) ?mono (by kernel_rfl) (by kernel_rfl) rfl (by kernel_rfl) trivial ?step ?fin
  case mono =>
   intro i j v u u' hij hsz h hB
   rcases j with _ | _ | _ | _ | _ | _ | _ | j
   ·exact h
   ·exact h
   ·exact h
   ·exact h
   ·exact h
   ·exact h
   ·exact (by have hB2 : But [] u u' := (by have hx := hB; simp only [if_neg hij] at hx; exact hx); obtain ⟨e1, s', e', e2, hM⟩ := h; exact ⟨e1, s', e', e2, hM.but hB2 (by simp) (by simp) (by simp) (by simp)⟩)
   ·trivial
  case step =>
   intro i o' ho
   rcases i with _ | _ | _ | _ | _ | _ | _ | i
   ·cases ho
    intro fu act u hW hB hsz hL hdep
    replace hB := hB [] (fun j hj hd k hk => by
     by_cases xz : j = 6
     ·subst xz; exact (depT_no hd (by kernel_rfl)).elim
     rw [if_neg xz] at hk; cases hk)
    obtain ⟨ysl, ha, hy⟩ := hL.puts [17, 18, 19, 20, 21, 22, 23] (by kernel_rfl)
    clear hdep hL hy
    simp only [List.foldl, List.setIfInBounds_toArray, List.set_cons_succ, List.set_cons_zero] at ha
    subst ha
    have c := (HX.out.but hB (by simp)).c0
    refine wpOp_step rfl (fun K hK => ?_)
    go_simp
    exact hK _ _ ⟨_, rfl, (fun h => by cases h), rfl, But.refl _ _, trivial⟩
   ·cases ho
    intro fu act u hW hB hsz hL hdep
    replace hB := hB [] (fun j hj hd k hk => by
     by_cases xz : j = 6
     ·subst xz; exact (depT_no hd (by kernel_rfl)).elim
     rw [if_neg xz] at hk; cases hk)
    have d0 := hdep { on := 0, ground := .data } (by simp) rfl _ rfl
    obtain ⟨ysl, ha, hy⟩ := hL.puts [17, 18, 19, 20, 21, 22, 23] (by kernel_rfl)
    have e0 : ysl 17 = .pointer (some ⟨m, 0, none⟩) := (hy 17).symm.trans d0
    clear hdep hL hy d0
    simp only [List.foldl, List.setIfInBounds_toArray, List.set_cons_succ, List.set_cons_zero, e0] at ha
    subst ha
    clear e0
    refine wpOp_step rfl (fun K hK => ?_)
    go_simp
    refine (impl_effects u m).mono ?_
    rintro r u' ⟨rfl, f'⟩
    go_simp
    exact hK _ _ ⟨_, rfl, (fun h => by cases h), rfl, But.of f', trivial⟩
   ·cases ho
    intro fu act u hW hB hsz hL hdep
    replace hB := hB [] (fun j hj hd k hk => by
     by_cases xz : j = 6
     ·subst xz; exact (depT_no hd (by kernel_rfl)).elim
     rw [if_neg xz] at hk; cases hk)
    obtain ⟨ysl, ha, hy⟩ := hL.puts [17, 18, 19, 20, 21, 22, 23] (by kernel_rfl)
    clear hdep hL hy
    simp only [List.foldl, List.setIfInBounds_toArray, List.set_cons_succ, List.set_cons_zero] at ha
    subst ha
    refine wpOp_step rfl (fun K hK => ?_)
    go_simp
    exact hK _ _ ⟨_, rfl, (fun h => by cases h), rfl, But.refl _ _, trivial⟩
   ·cases ho
    intro fu act u hW hB hsz hL hdep
    replace hB := hB [] (fun j hj hd k hk => by
     by_cases xz : j = 6
     ·subst xz; exact (depT_no hd (by kernel_rfl)).elim
     rw [if_neg xz] at hk; cases hk)
    have d2 := hdep { on := 2, ground := .data } (by simp) rfl _ rfl
    obtain ⟨ysl, ha, hy⟩ := hL.puts [17, 18, 19, 20, 21, 22, 23] (by kernel_rfl)
    have e2 : ysl 19 = .pointer (some ⟨Y, 0, none⟩) := (hy 19).symm.trans d2
    clear hdep hL hy d2
    simp only [List.foldl, List.setIfInBounds_toArray, List.set_cons_succ, List.set_cons_zero, e2] at ha
    subst ha
    clear e2
    have c := (HY.out.but hB (by simp)).c0
    refine wpOp_step rfl (fun K hK => ?_)
    go_simp
    exact hK _ _ ⟨_, rfl, (fun h => by cases h), rfl, But.refl _ _, trivial⟩
   ·cases ho
    intro fu act u hW hB hsz hL hdep
    replace hB := hB [] (fun j hj hd k hk => by
     by_cases xz : j = 6
     ·subst xz; exact (depT_no hd (by kernel_rfl)).elim
     rw [if_neg xz] at hk; cases hk)
    have d1 := hdep { on := 1, ground := .data } (by simp) rfl _ rfl
    have d3 := hdep { on := 3, ground := .data } (by simp) rfl _ rfl
    obtain ⟨ysl, ha, hy⟩ := hL.puts [17, 18, 19, 20, 21, 22, 23] (by kernel_rfl)
    have e1 : ysl 18 = .agg (effV m) := (hy 18).symm.trans d1
    have e3 : ysl 20 = .int .i64 k := (hy 20).symm.trans d3
    clear hdep hL hy d1 d3
    simp only [List.foldl, List.setIfInBounds_toArray, List.set_cons_succ, List.set_cons_zero, e1, e3] at ha
    subst ha
    clear e1 e3
    have hix := eff_index m k u hkb
    refine wpOp_step rfl (fun K hK => ?_)
    go_simp
    exact hK _ _ ⟨_, rfl, (fun h => by cases h), rfl, But.refl _ _, trivial⟩
   ·cases ho
    intro fu act u hW hB hsz hL hdep
    replace hB := hB [] (fun j hj hd k hk => by
     by_cases xz : j = 6
     ·subst xz; exact (depT_no hd (by kernel_rfl)).elim
     rw [if_neg xz] at hk; cases hk)
    obtain ⟨ysl, ha, hy⟩ := hL.puts [17, 18, 19, 20, 21, 22, 23] (by kernel_rfl)
    clear hdep hL hy
    simp only [List.foldl, List.setIfInBounds_toArray, List.set_cons_succ, List.set_cons_zero] at ha
    subst ha
    obtain ⟨y0, y1, y2, y3, y4, y5⟩ := HY.out.but hB (by simp)
    refine wpOp_step rfl (fun K hK => ?_)
    go_simp
    exact hK _ _ ⟨_, rfl, (fun h => by cases h), rfl, But.refl _ _, trivial⟩
   ·cases ho
    intro fu act u hW hB hsz hL hdep
    replace hB := hB [] (fun j hj hd k hk => by
     rw [if_neg hj] at hk; cases hk)
    have d4 := hdep { on := 4, ground := .data } (by simp) rfl _ rfl
    have d5 := hdep { on := 5, ground := .data } (by simp) rfl _ rfl
    obtain ⟨ysl, ha, hy⟩ := hL.puts [17, 18, 19, 20, 21, 22, 23] (by kernel_rfl)
    have e4 : ysl 21 = .func (.func (efF k)) #[.pointer (some ⟨m, 0, none⟩)] #[] := (hy 21).symm.trans d4
    have e5 : ysl 22 = .agg #[.int .i64 k, .int .i64 d, .int .i64 a, .int .i64 b, .int .i64 f, .int .i64 n] := (hy 22).symm.trans d5
    clear hdep hL hy d4 d5
    simp only [List.foldl, List.setIfInBounds_toArray, List.set_cons_succ, List.set_cons_zero, e4, e5] at ha
    subst ha
    clear e4 e5
    refine wpOp_step rfl (fun K hK => ?_)
    unfold Oper.wp
    rw [run_eff k hkb m (.agg #[.int .i64 k, .int .i64 d, .int .i64 a, .int .i64 b, .int .i64 f, .int .i64 n]) _ _ _ _ _ rfl rfl rfl, Oper.upon_enter]
    refine (ef_any u m gr gc gm cr cc cm s (ev1 s) k d a b f n (HM.out.but hB (by simp) (by simp) (by simp) (by simp)) HK.out hi).mono ?_
    intro r u' hef
    rw [HO.out] at hef
    cases ho : o with
    | stop why =>
     rw [ho] at hef
     obtain ⟨rfl, hM', hB'⟩ := hef
     simp only [trapE]
     go_simp
     have HX9 := HX.out.but (hB.up' (L' := [m, gr, gc, gm]) (fun k hk => by cases hk) |>.trans hB') (by simp; omega)
     refine leaves_cons (f := 73) (args := #[.pointer (some ⟨ub.heap.size, 0, none⟩)]) (by simp) (by simp [go_sem]) ?_
     refine (step1_panics ub.heap.size m gr gc gm cr cc cm s (ev1 s) (nx s) why _ hM' HK.out.lens (ok_get HK.out.C 3) HX9.c0).mono ?_
     rintro r u' w'' ⟨rfl, rfl, hMz, hBz⟩
     simp only [Leaves, settle, results, Tryd.results51]
     have hfin : StepM m gr gc gm cr cc cm s false ub (.returned (.tuple #[])) w'' := by
      refine ⟨rfl, ⟨nx s, ?_⟩, (HF.out.trans ((hB.up' (fun k hk => by cases hk)).trans hB')).trans hBz⟩
      rw [HST.out, ho]
      exact hMz
     simp [go_sem, settle, Leaves, results]
     exact hfin
    | go s' e' =>
     rw [ho] at hef
     obtain ⟨rfl, hM', hB'⟩ := hef
     go_simp
     exact hK _ _ ⟨_, rfl, (fun h => by cases h), ⟨rfl, s', e', ho, hM'⟩, hB', trivial⟩
   ·exact absurd ho (by simp)
  case fin =>
   intro act u hW hsz hB hL hsf
   replace hB := hB [m, gr, gc, gm] (fun j k hk => by
    by_cases yz : j = 6
    ·rw [if_pos yz] at hk; exact hk
    rw [if_neg yz] at hk
    cases hk)
   have d6 := hsf 6 _ rfl
   obtain ⟨ysl, ha, hy⟩ := hL.puts [17, 18, 19, 20, 21, 22, 23] (by kernel_rfl)
   clear hL hsf hy
   simp only [List.foldl, List.setIfInBounds_toArray, List.set_cons_succ, List.set_cons_zero] at ha
   subst ha
   obtain ⟨_, s', e', ho, hM'⟩ := d6
   have HF9 := Lib.hid (HF.out.trans hB)
   have HM9 := Lib.hid hM'
   have HX9 := Lib.hid (HX.out.but hB (by simp; omega))
   have HST9 := Lib.hid (show stepS s false = (s', e') by rw [HST.out, ho]; rfl)
   clear HF HM HX HST hB hW hM' HO ho HY hi
   have HF := Lib.hid HF9.out
   have HM := Lib.hid HM9.out
   have HX := Lib.hid HX9.out
   have HST := Lib.hid HST9.out
   clear HF9 HM9 HX9 HST9
   have hlX := HX.out.lt
   go_wp2_with fail
   refine wp_region_lots2 32 (fun i => if i = 8 then [m] else []) (fun _ _ => True) (fun i v u => match i with | 0 => v = .pointer (some ⟨m, 0, none⟩) | 1 => v = .pointer (some ⟨m, 0, none⟩) | 2 => v = .pointer (some ⟨m, 0, none⟩) | 3 => v = .pointer (some ⟨m, 11, none⟩) | 4 => v = .int .i64 s'.pc | 5 => v = .pointer (some ⟨m, 0, none⟩) | 6 => v = .pointer (some ⟨m, 0, none⟩) | 7 => v = .pointer (some ⟨m, 0, none⟩) | 8 => (True ∧ Mx u m gr gc gm cr cc cm s' e' s'.pc) | _ => True) ?mono (by kernel_rfl) (by kernel_rfl) rfl (by kernel_rfl) trivial ?step ?fin
   case mono =>
    intro i j v u u' hij hsz h hB
    rcases j with _ | _ | _ | _ | _ | _ | _ | _ | _ | j
    ·exact h
    ·exact h
    ·exact h
    ·exact h
    ·exact h
    ·exact h
    ·exact h
    ·exact h
    ·exact (by have hB2 : But [] u u' := (by have hx := hB; simp only [if_neg hij] at hx; exact hx); exact ⟨trivial, h.2.but hB2 (by simp) (by simp) (by simp) (by simp)⟩)
    ·trivial
   case step =>
    intro i o ho
    rcases i with _ | _ | _ | _ | _ | _ | _ | _ | _ | i
    ·cases ho
     intro fu act u hW hB hsz hL hdep
     replace hB := hB [] (fun j hj hd k hk => by
      by_cases xz : j = 8
      ·subst xz; exact (depT_no hd (by kernel_rfl)).elim
      rw [if_neg xz] at hk; cases hk)
     obtain ⟨ysl, ha, hy⟩ := hL.puts [24, 25, 26, 27, 28, 29, 30, 31] (by kernel_rfl)
     clear hdep hL hy
     simp only [List.foldl, List.setIfInBounds_toArray, List.set_cons_succ, List.set_cons_zero] at ha
     subst ha
     have c := (HX.out.but hB (by simp)).c0
     refine wpOp_step rfl (fun K hK => ?_)
     go_simp
     exact hK _ _ ⟨_, rfl, (fun h => by cases h), (by first | rfl | (exact congrArg (Value.int .i64) (by rw [IntWalk.i64_left, IntWalk.wrap64_in _ (by omega)])) | simp), But.refl _ _, trivial⟩
    ·cases ho
     intro fu act u hW hB hsz hL hdep
     replace hB := hB [] (fun j hj hd k hk => by
      by_cases xz : j = 8
      ·subst xz; exact (depT_no hd (by kernel_rfl)).elim
      rw [if_neg xz] at hk; cases hk)
     obtain ⟨ysl, ha, hy⟩ := hL.puts [24, 25, 26, 27, 28, 29, 30, 31] (by kernel_rfl)
     clear hdep hL hy
     simp only [List.foldl, List.setIfInBounds_toArray, List.set_cons_succ, List.set_cons_zero] at ha
     subst ha
     have c := (HX.out.but hB (by simp)).c0
     refine wpOp_step rfl (fun K hK => ?_)
     go_simp
     exact hK _ _ ⟨_, rfl, (fun h => by cases h), (by first | rfl | (exact congrArg (Value.int .i64) (by rw [IntWalk.i64_left, IntWalk.wrap64_in _ (by omega)])) | simp), But.refl _ _, trivial⟩
    ·cases ho
     intro fu act u hW hB hsz hL hdep
     replace hB := hB [] (fun j hj hd k hk => by
      by_cases xz : j = 8
      ·subst xz; exact (depT_no hd (by kernel_rfl)).elim
      rw [if_neg xz] at hk; cases hk)
     have d1 := hdep { on := 1, ground := .data } (by simp) rfl _ rfl
     obtain ⟨ysl, ha, hy⟩ := hL.puts [24, 25, 26, 27, 28, 29, 30, 31] (by kernel_rfl)
     have e1 : ysl 25 = .pointer (some ⟨m, 0, none⟩) := (hy 25).symm.trans d1
     clear hdep hL hy d1
     simp only [List.foldl, List.setIfInBounds_toArray, List.set_cons_succ, List.set_cons_zero, e1] at ha
     subst ha
     clear e1
     refine wpOp_step rfl (fun K hK => ?_)
     go_simp
     exact hK _ _ ⟨_, rfl, (fun h => by cases h), (by first | rfl | (exact congrArg (Value.int .i64) (by rw [IntWalk.i64_left, IntWalk.wrap64_in _ (by omega)])) | simp), But.refl _ _, trivial⟩
    ·cases ho
     intro fu act u hW hB hsz hL hdep
     replace hB := hB [] (fun j hj hd k hk => by
      by_cases xz : j = 8
      ·subst xz; exact (depT_no hd (by kernel_rfl)).elim
      rw [if_neg xz] at hk; cases hk)
     have d2 := hdep { on := 2, ground := .data } (by simp) rfl _ rfl
     obtain ⟨ysl, ha, hy⟩ := hL.puts [24, 25, 26, 27, 28, 29, 30, 31] (by kernel_rfl)
     have e2 : ysl 26 = .pointer (some ⟨m, 0, none⟩) := (hy 26).symm.trans d2
     clear hdep hL hy d2
     simp only [List.foldl, List.setIfInBounds_toArray, List.set_cons_succ, List.set_cons_zero, e2] at ha
     subst ha
     clear e2
     refine wpOp_step rfl (fun K hK => ?_)
     go_simp
     exact hK _ _ ⟨_, rfl, (fun h => by cases h), (by first | rfl | (exact congrArg (Value.int .i64) (by rw [IntWalk.i64_left, IntWalk.wrap64_in _ (by omega)])) | simp), But.refl _ _, trivial⟩
    ·cases ho
     intro fu act u hW hB hsz hL hdep
     replace hB := hB [] (fun j hj hd k hk => by
      by_cases xz : j = 8
      ·subst xz; exact (depT_no hd (by kernel_rfl)).elim
      rw [if_neg xz] at hk; cases hk)
     have d3 := hdep { on := 3, ground := .data } (by simp) rfl _ rfl
     obtain ⟨ysl, ha, hy⟩ := hL.puts [24, 25, 26, 27, 28, 29, 30, 31] (by kernel_rfl)
     have e3 : ysl 27 = .pointer (some ⟨m, 11, none⟩) := (hy 27).symm.trans d3
     clear hdep hL hy d3
     simp only [List.foldl, List.setIfInBounds_toArray, List.set_cons_succ, List.set_cons_zero, e3] at ha
     subst ha
     clear e3
     have hm := HM.out.but hB (by simp) (by simp) (by simp) (by simp)
     have c := hm.cel 11 (by decide)
     simp only [mCells, List.getElem?_cons_succ, List.getElem?_cons_zero] at c
     clear hm
     refine wpOp_step rfl (fun K hK => ?_)
     go_simp
     exact hK _ _ ⟨_, rfl, (fun h => by cases h), (by first | rfl | (exact congrArg (Value.int .i64) (by rw [IntWalk.i64_left, IntWalk.wrap64_in _ (by omega)])) | simp), But.refl _ _, trivial⟩
    ·cases ho
     intro fu act u hW hB hsz hL hdep
     replace hB := hB [] (fun j hj hd k hk => by
      by_cases xz : j = 8
      ·subst xz; exact (depT_no hd (by kernel_rfl)).elim
      rw [if_neg xz] at hk; cases hk)
     have d0 := hdep { on := 0, ground := .data } (by simp) rfl _ rfl
     obtain ⟨ysl, ha, hy⟩ := hL.puts [24, 25, 26, 27, 28, 29, 30, 31] (by kernel_rfl)
     have e0 : ysl 24 = .pointer (some ⟨m, 0, none⟩) := (hy 24).symm.trans d0
     clear hdep hL hy d0
     simp only [List.foldl, List.setIfInBounds_toArray, List.set_cons_succ, List.set_cons_zero, e0] at ha
     subst ha
     clear e0
     refine wpOp_step rfl (fun K hK => ?_)
     go_simp
     exact hK _ _ ⟨_, rfl, (fun h => by cases h), (by first | rfl | (exact congrArg (Value.int .i64) (by rw [IntWalk.i64_left, IntWalk.wrap64_in _ (by omega)])) | simp), But.refl _ _, trivial⟩
    ·cases ho
     intro fu act u hW hB hsz hL hdep
     replace hB := hB [] (fun j hj hd k hk => by
      by_cases xz : j = 8
      ·subst xz; exact (depT_no hd (by kernel_rfl)).elim
      rw [if_neg xz] at hk; cases hk)
     have d5 := hdep { on := 5, ground := .data } (by simp) rfl _ rfl
     obtain ⟨ysl, ha, hy⟩ := hL.puts [24, 25, 26, 27, 28, 29, 30, 31] (by kernel_rfl)
     have e5 : ysl 29 = .pointer (some ⟨m, 0, none⟩) := (hy 29).symm.trans d5
     clear hdep hL hy d5
     simp only [List.foldl, List.setIfInBounds_toArray, List.set_cons_succ, List.set_cons_zero, e5] at ha
     subst ha
     clear e5
     refine wpOp_step rfl (fun K hK => ?_)
     go_simp
     exact hK _ _ ⟨_, rfl, (fun h => by cases h), (by first | rfl | (exact congrArg (Value.int .i64) (by rw [IntWalk.i64_left, IntWalk.wrap64_in _ (by omega)])) | simp), But.refl _ _, trivial⟩
    ·cases ho
     intro fu act u hW hB hsz hL hdep
     replace hB := hB [] (fun j hj hd k hk => by
      by_cases xz : j = 8
      ·subst xz; exact (depT_no hd (by kernel_rfl)).elim
      rw [if_neg xz] at hk; cases hk)
     have d6 := hdep { on := 6, ground := .data } (by simp) rfl _ rfl
     obtain ⟨ysl, ha, hy⟩ := hL.puts [24, 25, 26, 27, 28, 29, 30, 31] (by kernel_rfl)
     have e6 : ysl 30 = .pointer (some ⟨m, 0, none⟩) := (hy 30).symm.trans d6
     clear hdep hL hy d6
     simp only [List.foldl, List.setIfInBounds_toArray, List.set_cons_succ, List.set_cons_zero, e6] at ha
     subst ha
     clear e6
     refine wpOp_step rfl (fun K hK => ?_)
     go_simp
     exact hK _ _ ⟨_, rfl, (fun h => by cases h), (by first | rfl | (exact congrArg (Value.int .i64) (by rw [IntWalk.i64_left, IntWalk.wrap64_in _ (by omega)])) | simp), But.refl _ _, trivial⟩
    ·cases ho
     intro fu act u hW hB hsz hL hdep
     replace hB := hB [] (fun j hj hd k hk => by
      rw [if_neg hj] at hk; cases hk)
     have d4 := hdep { on := 4, ground := .data } (by simp) rfl _ rfl
     have d7 := hdep { on := 7, ground := .data } (by simp) rfl _ rfl
     obtain ⟨ysl, ha, hy⟩ := hL.puts [24, 25, 26, 27, 28, 29, 30, 31] (by kernel_rfl)
     have e4 : ysl 28 = .int .i64 s'.pc := (hy 28).symm.trans d4
     have e7 : ysl 31 = .pointer (some ⟨m, 0, none⟩) := (hy 31).symm.trans d7
     clear hdep hL hy d4 d7
     simp only [List.foldl, List.setIfInBounds_toArray, List.set_cons_succ, List.set_cons_zero, e4, e7] at ha
     subst ha
     clear e4 e7
     have hm := (HM.out.but hB (by simp) (by simp) (by simp) (by simp))
     have c := hm.cel 0 (by decide)
     have c' := hm.fro 0 (by decide)
     simp only [mCells, List.getElem?_cons_succ, List.getElem?_cons_zero] at c
     refine wpOp_step rfl (fun K hK => ?_)
     go_simp
     exact hK _ _ ⟨undef, rfl, (fun _ => rfl), ⟨trivial, hm.set (s' := s') (e' := e') (nx' := s'.pc) 0 (.int .i64 s'.pc) (by decide) rfl rfl rfl rfl⟩, (But.refl [m] u).set m _ _ (.inl (by simp)), trivial⟩
    ·exact absurd ho (by simp)
   case fin =>
    intro act u hW hsz hB hL hsf
    replace hB := hB [m] (fun j k hk => by
     by_cases yz : j = 8
     ·rw [if_pos yz] at hk; exact hk
     rw [if_neg yz] at hk
     cases hk)
    have d8 := hsf 8 _ rfl
    obtain ⟨ysl, ha, hy⟩ := hL.puts [24, 25, 26, 27, 28, 29, 30, 31] (by kernel_rfl)
    clear hL hsf hy
    simp only [List.foldl, List.setIfInBounds_toArray, List.set_cons_succ, List.set_cons_zero] at ha
    subst ha
    obtain ⟨_, hM9⟩ := d8
    have HB9 := HF.out.trans (hB.up' (L' := [m, gr, gc, gm]) (fun k hk => by simp at hk ⊢; omega))
    go_wp2_with fail
    refine leaves_cons (f := 73) (args := #[.pointer (some ⟨ub.heap.size, 0, none⟩)]) (by simp) (by simp [go_sem]) ?_
    refine (step1_idle ub.heap.size _).mono ?_
    rintro r u' w'' ⟨rfl, rfl, rfl⟩
    have hfin : StepM m gr gc gm cr cc cm s false ub (.returned (.tuple #[])) _ := ⟨rfl, ⟨s'.pc, by rw [HST.out]; exact hM9⟩, HB9⟩
    simp [go_sem, settle, Leaves, results, Tryd.results51]
    exact hfin
set_option maxRecDepth 8000 in
set_option maxHeartbeats 4000000 in
theorem impl_step_true (ub : World) (m gr gc gm cr cc cm : Nat) (s : St) (ring : Bool) (h : Mx ub m gr gc gm cr cc cm s (ev0 s) (nx s)) (hk : OkS s) (ht : Tabs ub) (hg : 2 ≤ m) (hr : ring = true) (hnr : ¬ (ring = true ∧ usr s.C = true)) :
  Calls Tryd.prog 51 #[.pointer (some ⟨m, 0, none⟩), .bool ring] ub (StepM m gr gc gm cr cc cm s ring ub) := by
 subst hr
 have HNR := Lib.hid hnr
 have HU := Lib.hid (show usr s.C = false by simpa using hnr)
 have hmf : ∀ (fn : Fn) (first cap : Array Value) (w : World), (Instr.makeFunc fn first cap).run Tryd.prog w = .ok (.func fn first cap) w := fun _ _ _ _ => rfl
 have F0 := Fr.alloc ub (.cells #[.pointer (some ⟨m, 0, none⟩)] 63)
 have HM := Lib.hid (h.fr F0)
 have HF := Lib.hid (But.of (L := [m, gr, gc, gm]) F0)
 have HK := Lib.hid hk
 have HX := Lib.hid (show Box1 (ub.alloc (.cells #[.pointer (some ⟨m, 0, none⟩)] 63)) ub.heap.size (.pointer (some ⟨m, 0, none⟩)) from ⟨by simp, by simp⟩)
 have hlm := h.lt
 have lr := h.ow.R.lt
 have lc := h.ow.C.lt
 have lm := h.ow.M.lt
 have n1 : ¬ ub.heap.size = m := by omega
 have n2 : ¬ m = ub.heap.size := by omega
 have HT := Lib.hid (ht.fr F0)
 have E := Lib.hid (user_of (cr := cr) (cc := cc) (cm := cm) HM.out.ow hk)
 obtain ⟨c0, c1, c2, c3⟩ := h.four
 clear h F0 hk hnr ht
 go_enter_defers Tryd.func51, Tryd.ntmps51
 go_wp2_with fail
 refine E.out.mono ?_
 rintro r u1 ⟨rfl, f1⟩
 rw [HU.out]
 have HM1 := Lib.hid (HM.out.fr f1)
 have HF1 := Lib.hid (HF.out.trans (But.of f1))
 have HX1 := Lib.hid (HX.out.fr f1)
 have HT1 := Lib.hid (HT.out.fr f1)
 have hq := HX1.out.c0
 clear f1 HM HF HX HT
 go_wp2_with fail
 refine (impl_fetch u1 m gr gc gm cr cc cm s (ev0 s) HM1.out HK.out HT1.out hg).mono ?_
 rintro r u2 hf
 clear c0 c1 c2 c3 n1 n2
 rcases hf with ⟨hs, rfl, hM2, hB2⟩ | ⟨hs, hgd, rfl, hM2, hB2⟩ | ⟨hs, hgd, rfl, hM2, hB2⟩
 ·have HST := Lib.hid (step_take (ring := true) (by have h := HNR.out; first | (simp; done) | (simpa using h)) hs)
  have HX2 := Lib.hid (HX1.out.but hB2 (by simp; omega))
  simp only [trapE]
  go_wp2
  refine leaves_cons (f := 73) (args := #[.pointer (some ⟨ub.heap.size, 0, none⟩)]) (by simp) (by simp [go_sem]) ?_
  refine (step1_panics ub.heap.size m gr gc gm cr cc cm s (ev0 s) (nx s) 2 _ hM2 HK.out.lens (ok_get HK.out.C 3) HX2.out.c0).mono ?_
  rintro r u' w'' ⟨rfl, rfl, hMz, hBz⟩
  simp only [Leaves, settle, results, Tryd.results51]
  have hfin : StepM m gr gc gm cr cc cm s true ub (.returned (.tuple #[])) w'' := by
   refine ⟨rfl, ⟨nx s, ?_⟩, (HF1.out.trans hB2).trans hBz⟩
   rw [HST.out]
   exact hMz
  simp [go_sem, settle, Leaves, results]
  exact hfin
 ·have HST := Lib.hid (step_code (ring := true) (by have h := HNR.out; first | (simp; done) | (simpa using h)) hs hgd)
  have HX2 := Lib.hid (HX1.out.but hB2 (by simp; omega))
  simp only [trapE]
  go_wp2
  refine leaves_cons (f := 73) (args := #[.pointer (some ⟨ub.heap.size, 0, none⟩)]) (by simp) (by simp [go_sem]) ?_
  refine (step1_panics ub.heap.size m gr gc gm cr cc cm s (ev1 s) (nx s) 1 _ hM2 HK.out.lens (ok_get HK.out.C 3) HX2.out.c0).mono ?_
  rintro r u' w'' ⟨rfl, rfl, hMz, hBz⟩
  simp only [Leaves, settle, results, Tryd.results51]
  have hfin : StepM m gr gc gm cr cc cm s true ub (.returned (.tuple #[])) w'' := by
   refine ⟨rfl, ⟨nx s, ?_⟩, (HF1.out.trans hB2).trans hBz⟩
   rw [HST.out]
   exact hMz
  simp [go_sem, settle, Leaves, results]
  exact hfin
 ·have HST := Lib.hid (step_exe (ring := true) (by have h := HNR.out; first | (simp; done) | (simpa using h)) hs hgd)
  have hi := (read_ok hgd).1
  have HX2 := Lib.hid (HX1.out.but hB2 (by simp; omega))
  have HF2 := Lib.hid (HF1.out.trans hB2)
  have HM2 := Lib.hid (show Mx u2 m gr gc gm cr cc cm s (ev1 s) (nx s) from hM2)
  have hs2 := hB2.size
  clear HM1 HX1 HF1 HT1 hM2 hB2 hs HNR
  unfold exeS at HST
  generalize wAt s / 4096 = k at *
  generalize rdv (wAt s) 0 = d at *
  generalize rdv (wAt s) 1 = a at *
  generalize rdv (wAt s) 2 = b at *
  generalize rdv (wAt s) 3 = f at *
  generalize rdv (wAt s) 4 = n at *
  obtain ⟨o, hoe⟩ : ∃ o, effS s (ev1 s) k d a b f n = o := ⟨_, rfl⟩
  rw [hoe] at HST
  have HO := Lib.hid hoe
  have hkb := iok_k hi
  clear hoe hgd
  go_wp2_with fail
  have HM := Lib.hid (HM2.out.fr (Fr.alloc u2 (.cells #[.int .i64 k, .int .i64 d, .int .i64 a, .int .i64 b, .int .i64 f, .int .i64 n] 48)))
  have HX := Lib.hid (HX2.out.fr (Fr.alloc u2 (.cells #[.int .i64 k, .int .i64 d, .int .i64 a, .int .i64 b, .int .i64 f, .int .i64 n] 48)))
  have HF := Lib.hid (HF2.out.trans (But.of (Fr.alloc u2 (.cells #[.int .i64 k, .int .i64 d, .int .i64 a, .int .i64 b, .int .i64 f, .int .i64 n] 48))))
  have HY := Lib.hid (Box.new u2 k d a b f n 48)
  have hl2 := HX2.out.lt
  clear HM2 HX2 HF2
  generalize (u2.alloc (.cells #[.int .i64 k, .int .i64 d, .int .i64 a, .int .i64 b, .int .i64 f, .int .i64 n] 48)) = u3 at *
  generalize u2.heap.size = Y at *
  refine wp_region_lots2 32 (fun i => if i = 6 then [m, gr, gc, gm] else []) (fun _ _ => True) (fun i v u => match i with | 0 => v = .pointer (some ⟨m, 0, none⟩) | 1 => v = .agg (effV m) | 2 => v = .pointer (some ⟨Y, 0, none⟩) | 3 => v = .int .i64 k | 4 => v = .func (.func (efF k)) #[.pointer (some ⟨m, 0, none⟩)] #[] | 5 => v = .agg #[.int .i64 k, .int .i64 d, .int .i64 a, .int .i64 b, .int .i64 f, .int .i64 n] | 6 => (v = .tuple #[] ∧ ∃ s' e', o = .go s' e' ∧ Mx u m gr gc gm cr cc cm ⟨s.pc, s'.R, s'.C, s'.M⟩ e' s'.pc) | _ => True) ?mono (by kernel_rfl) (by kernel_rfl) rfl (by kernel_rfl) trivial ?step ?fin
  case mono =>
   intro i j v u u' hij hsz h hB
   rcases j with _ | _ | _ | _ | _ | _ | _ | j
   ·exact h
   ·exact h
   ·exact h
   ·exact h
   ·exact h
   ·exact h
   ·exact (by have hB2 : But [] u u' := (by have hx := hB; simp only [if_neg hij] at hx; exact hx); obtain ⟨e1, s', e', e2, hM⟩ := h; exact ⟨e1, s', e', e2, hM.but hB2 (by simp) (by simp) (by simp) (by simp)⟩)
   ·trivial
  case step =>
   intro i o' ho
   rcases i with _ | _ | _ | _ | _ | _ | _ | i
   ·cases ho
    intro fu act u hW hB hsz hL hdep
    replace hB := hB [] (fun j hj hd k hk => by
     by_cases xz : j = 6
     ·subst xz; exact (depT_no hd (by kernel_rfl)).elim
     rw [if_neg xz] at hk; cases hk)
    obtain ⟨ysl, ha, hy⟩ := hL.puts [17, 18, 19, 20, 21, 22, 23] (by kernel_rfl)
    clear hdep hL hy
    simp only [List.foldl, List.setIfInBounds_toArray, List.set_cons_succ, List.set_cons_zero] at ha
    subst ha
    have c := (HX.out.but hB (by simp)).c0
    refine wpOp_step rfl (fun K hK => ?_)
    go_simp
    exact hK _ _ ⟨_, rfl, (fun h => by cases h), rfl, But.refl _ _, trivial⟩
   ·cases ho
    intro fu act u hW hB hsz hL hdep
    replace hB := hB [] (fun j hj hd k hk => by
     by_cases xz : j = 6
     ·subst xz; exact (depT_no hd (by kernel_rfl)).elim
     rw [if_neg xz] at hk; cases hk)
    have d0 := hdep { on := 0, ground := .data } (by simp) rfl _ rfl
    obtain ⟨ysl, ha, hy⟩ := hL.puts [17, 18, 19, 20, 21, 22, 23] (by kernel_rfl)
    have e0 : ysl 17 = .pointer (some ⟨m, 0, none⟩) := (hy 17).symm.trans d0
    clear hdep hL hy d0
    simp only [List.foldl, List.setIfInBounds_toArray, List.set_cons_succ, List.set_cons_zero, e0] at ha
    subst ha
    clear e0
    refine wpOp_step rfl (fun K hK => ?_)
    go_simp
    refine (impl_effects u m).mono ?_
    rintro r u' ⟨rfl, f'⟩
    go_simp
    exact hK _ _ ⟨_, rfl, (fun h => by cases h), rfl, But.of f', trivial⟩
   ·cases ho
    intro fu act u hW hB hsz hL hdep
    replace hB := hB [] (fun j hj hd k hk => by
     by_cases xz : j = 6
     ·subst xz; exact (depT_no hd (by kernel_rfl)).elim
     rw [if_neg xz] at hk; cases hk)
    obtain ⟨ysl, ha, hy⟩ := hL.puts [17, 18, 19, 20, 21, 22, 23] (by kernel_rfl)
    clear hdep hL hy
    simp only [List.foldl, List.setIfInBounds_toArray, List.set_cons_succ, List.set_cons_zero] at ha
    subst ha
    refine wpOp_step rfl (fun K hK => ?_)
    go_simp
    exact hK _ _ ⟨_, rfl, (fun h => by cases h), rfl, But.refl _ _, trivial⟩
   ·cases ho
    intro fu act u hW hB hsz hL hdep
    replace hB := hB [] (fun j hj hd k hk => by
     by_cases xz : j = 6
     ·subst xz; exact (depT_no hd (by kernel_rfl)).elim
     rw [if_neg xz] at hk; cases hk)
    have d2 := hdep { on := 2, ground := .data } (by simp) rfl _ rfl
    obtain ⟨ysl, ha, hy⟩ := hL.puts [17, 18, 19, 20, 21, 22, 23] (by kernel_rfl)
    have e2 : ysl 19 = .pointer (some ⟨Y, 0, none⟩) := (hy 19).symm.trans d2
    clear hdep hL hy d2
    simp only [List.foldl, List.setIfInBounds_toArray, List.set_cons_succ, List.set_cons_zero, e2] at ha
    subst ha
    clear e2
    have c := (HY.out.but hB (by simp)).c0
    refine wpOp_step rfl (fun K hK => ?_)
    go_simp
    exact hK _ _ ⟨_, rfl, (fun h => by cases h), rfl, But.refl _ _, trivial⟩
   ·cases ho
    intro fu act u hW hB hsz hL hdep
    replace hB := hB [] (fun j hj hd k hk => by
     by_cases xz : j = 6
     ·subst xz; exact (depT_no hd (by kernel_rfl)).elim
     rw [if_neg xz] at hk; cases hk)
    have d1 := hdep { on := 1, ground := .data } (by simp) rfl _ rfl
    have d3 := hdep { on := 3, ground := .data } (by simp) rfl _ rfl
    obtain ⟨ysl, ha, hy⟩ := hL.puts [17, 18, 19, 20, 21, 22, 23] (by kernel_rfl)
    have e1 : ysl 18 = .agg (effV m) := (hy 18).symm.trans d1
    have e3 : ysl 20 = .int .i64 k := (hy 20).symm.trans d3
    clear hdep hL hy d1 d3
    simp only [List.foldl, List.setIfInBounds_toArray, List.set_cons_succ, List.set_cons_zero, e1, e3] at ha
    subst ha
    clear e1 e3
    have hix := eff_index m k u hkb
    refine wpOp_step rfl (fun K hK => ?_)
    go_simp
    exact hK _ _ ⟨_, rfl, (fun h => by cases h), rfl, But.refl _ _, trivial⟩
   ·cases ho
    intro fu act u hW hB hsz hL hdep
    replace hB := hB [] (fun j hj hd k hk => by
     by_cases xz : j = 6
     ·subst xz; exact (depT_no hd (by kernel_rfl)).elim
     rw [if_neg xz] at hk; cases hk)
    obtain ⟨ysl, ha, hy⟩ := hL.puts [17, 18, 19, 20, 21, 22, 23] (by kernel_rfl)
    clear hdep hL hy
    simp only [List.foldl, List.setIfInBounds_toArray, List.set_cons_succ, List.set_cons_zero] at ha
    subst ha
    obtain ⟨y0, y1, y2, y3, y4, y5⟩ := HY.out.but hB (by simp)
    refine wpOp_step rfl (fun K hK => ?_)
    go_simp
    exact hK _ _ ⟨_, rfl, (fun h => by cases h), rfl, But.refl _ _, trivial⟩
   ·cases ho
    intro fu act u hW hB hsz hL hdep
    replace hB := hB [] (fun j hj hd k hk => by
     rw [if_neg hj] at hk; cases hk)
    have d4 := hdep { on := 4, ground := .data } (by simp) rfl _ rfl
    have d5 := hdep { on := 5, ground := .data } (by simp) rfl _ rfl
    obtain ⟨ysl, ha, hy⟩ := hL.puts [17, 18, 19, 20, 21, 22, 23] (by kernel_rfl)
    have e4 : ysl 21 = .func (.func (efF k)) #[.pointer (some ⟨m, 0, none⟩)] #[] := (hy 21).symm.trans d4
    have e5 : ysl 22 = .agg #[.int .i64 k, .int .i64 d, .int .i64 a, .int .i64 b, .int .i64 f, .int .i64 n] := (hy 22).symm.trans d5
    clear hdep hL hy d4 d5
    simp only [List.foldl, List.setIfInBounds_toArray, List.set_cons_succ, List.set_cons_zero, e4, e5] at ha
    subst ha
    clear e4 e5
    refine wpOp_step rfl (fun K hK => ?_)
    unfold Oper.wp
    rw [run_eff k hkb m (.agg #[.int .i64 k, .int .i64 d, .int .i64 a, .int .i64 b, .int .i64 f, .int .i64 n]) _ _ _ _ _ rfl rfl rfl, Oper.upon_enter]
    refine (ef_any u m gr gc gm cr cc cm s (ev1 s) k d a b f n (HM.out.but hB (by simp) (by simp) (by simp) (by simp)) HK.out hi).mono ?_
    intro r u' hef
    rw [HO.out] at hef
    cases ho : o with
    | stop why =>
     rw [ho] at hef
     obtain ⟨rfl, hM', hB'⟩ := hef
     simp only [trapE]
     go_simp
     have HX9 := HX.out.but (hB.up' (L' := [m, gr, gc, gm]) (fun k hk => by cases hk) |>.trans hB') (by simp; omega)
     refine leaves_cons (f := 73) (args := #[.pointer (some ⟨ub.heap.size, 0, none⟩)]) (by simp) (by simp [go_sem]) ?_
     refine (step1_panics ub.heap.size m gr gc gm cr cc cm s (ev1 s) (nx s) why _ hM' HK.out.lens (ok_get HK.out.C 3) HX9.c0).mono ?_
     rintro r u' w'' ⟨rfl, rfl, hMz, hBz⟩
     simp only [Leaves, settle, results, Tryd.results51]
     have hfin : StepM m gr gc gm cr cc cm s true ub (.returned (.tuple #[])) w'' := by
      refine ⟨rfl, ⟨nx s, ?_⟩, (HF.out.trans ((hB.up' (fun k hk => by cases hk)).trans hB')).trans hBz⟩
      rw [HST.out, ho]
      exact hMz
     simp [go_sem, settle, Leaves, results]
     exact hfin
    | go s' e' =>
     rw [ho] at hef
     obtain ⟨rfl, hM', hB'⟩ := hef
     go_simp
     exact hK _ _ ⟨_, rfl, (fun h => by cases h), ⟨rfl, s', e', ho, hM'⟩, hB', trivial⟩
   ·exact absurd ho (by simp)
  case fin =>
   intro act u hW hsz hB hL hsf
   replace hB := hB [m, gr, gc, gm] (fun j k hk => by
    by_cases yz : j = 6
    ·rw [if_pos yz] at hk; exact hk
    rw [if_neg yz] at hk
    cases hk)
   have d6 := hsf 6 _ rfl
   obtain ⟨ysl, ha, hy⟩ := hL.puts [17, 18, 19, 20, 21, 22, 23] (by kernel_rfl)
   clear hL hsf hy
   simp only [List.foldl, List.setIfInBounds_toArray, List.set_cons_succ, List.set_cons_zero] at ha
   subst ha
   obtain ⟨_, s', e', ho, hM'⟩ := d6
   have HF9 := Lib.hid (HF.out.trans hB)
   have HM9 := Lib.hid hM'
   have HX9 := Lib.hid (HX.out.but hB (by simp; omega))
   have HST9 := Lib.hid (show stepS s true = (s', e') by rw [HST.out, ho]; rfl)
   clear HF HM HX HST hB hW hM' HO ho HY hi
   have HF := Lib.hid HF9.out
   have HM := Lib.hid HM9.out
   have HX := Lib.hid HX9.out
   have HST := Lib.hid HST9.out
   clear HF9 HM9 HX9 HST9
   have hlX := HX.out.lt
   go_wp2_with fail
   refine wp_region_lots2 32 (fun i => if i = 8 then [m] else []) (fun _ _ => True) (fun i v u => match i with | 0 => v = .pointer (some ⟨m, 0, none⟩) | 1 => v = .pointer (some ⟨m, 0, none⟩) | 2 => v = .pointer (some ⟨m, 0, none⟩) | 3 => v = .pointer (some ⟨m, 11, none⟩) | 4 => v = .int .i64 s'.pc | 5 => v = .pointer (some ⟨m, 0, none⟩) | 6 => v = .pointer (some ⟨m, 0, none⟩) | 7 => v = .pointer (some ⟨m, 0, none⟩) | 8 => (True ∧ Mx u m gr gc gm cr cc cm s' e' s'.pc) | _ => True) ?mono (by kernel_rfl) (by kernel_rfl) rfl (by kernel_rfl) trivial ?step ?fin
   case mono =>
    intro i j v u u' hij hsz h hB
    rcases j with _ | _ | _ | _ | _ | _ | _ | _ | _ | j
    ·exact h
    ·exact h
    ·exact h
    ·exact h
    ·exact h
    ·exact h
    ·exact h
    ·exact h
    ·exact (by have hB2 : But [] u u' := (by have hx := hB; simp only [if_neg hij] at hx; exact hx); exact ⟨trivial, h.2.but hB2 (by simp) (by simp) (by simp) (by simp)⟩)
    ·trivial
   case step =>
    intro i o ho
    rcases i with _ | _ | _ | _ | _ | _ | _ | _ | _ | i
    ·cases ho
     intro fu act u hW hB hsz hL hdep
     replace hB := hB [] (fun j hj hd k hk => by
      by_cases xz : j = 8
      ·subst xz; exact (depT_no hd (by kernel_rfl)).elim
      rw [if_neg xz] at hk; cases hk)
     obtain ⟨ysl, ha, hy⟩ := hL.puts [24, 25, 26, 27, 28, 29, 30, 31] (by kernel_rfl)
     clear hdep hL hy
     simp only [List.foldl, List.setIfInBounds_toArray, List.set_cons_succ, List.set_cons_zero] at ha
     subst ha
     have c := (HX.out.but hB (by simp)).c0
     refine wpOp_step rfl (fun K hK => ?_)
     go_simp
     exact hK _ _ ⟨_, rfl, (fun h => by cases h), (by first | rfl | (exact congrArg (Value.int .i64) (by rw [IntWalk.i64_left, IntWalk.wrap64_in _ (by omega)])) | simp), But.refl _ _, trivial⟩
    ·cases ho
     intro fu act u hW hB hsz hL hdep
     replace hB := hB [] (fun j hj hd k hk => by
      by_cases xz : j = 8
      ·subst xz; exact (depT_no hd (by kernel_rfl)).elim
      rw [if_neg xz] at hk; cases hk)
     obtain ⟨ysl, ha, hy⟩ := hL.puts [24, 25, 26, 27, 28, 29, 30, 31] (by kernel_rfl)
     clear hdep hL hy
     simp only [List.foldl, List.setIfInBounds_toArray, List.set_cons_succ, List.set_cons_zero] at ha
     subst ha
     have c := (HX.out.but hB (by simp)).c0
     refine wpOp_step rfl (fun K hK => ?_)
     go_simp
     exact hK _ _ ⟨_, rfl, (fun h => by cases h), (by first | rfl | (exact congrArg (Value.int .i64) (by rw [IntWalk.i64_left, IntWalk.wrap64_in _ (by omega)])) | simp), But.refl _ _, trivial⟩
    ·cases ho
     intro fu act u hW hB hsz hL hdep
     replace hB := hB [] (fun j hj hd k hk => by
      by_cases xz : j = 8
      ·subst xz; exact (depT_no hd (by kernel_rfl)).elim
      rw [if_neg xz] at hk; cases hk)
     have d1 := hdep { on := 1, ground := .data } (by simp) rfl _ rfl
     obtain ⟨ysl, ha, hy⟩ := hL.puts [24, 25, 26, 27, 28, 29, 30, 31] (by kernel_rfl)
     have e1 : ysl 25 = .pointer (some ⟨m, 0, none⟩) := (hy 25).symm.trans d1
     clear hdep hL hy d1
     simp only [List.foldl, List.setIfInBounds_toArray, List.set_cons_succ, List.set_cons_zero, e1] at ha
     subst ha
     clear e1
     refine wpOp_step rfl (fun K hK => ?_)
     go_simp
     exact hK _ _ ⟨_, rfl, (fun h => by cases h), (by first | rfl | (exact congrArg (Value.int .i64) (by rw [IntWalk.i64_left, IntWalk.wrap64_in _ (by omega)])) | simp), But.refl _ _, trivial⟩
    ·cases ho
     intro fu act u hW hB hsz hL hdep
     replace hB := hB [] (fun j hj hd k hk => by
      by_cases xz : j = 8
      ·subst xz; exact (depT_no hd (by kernel_rfl)).elim
      rw [if_neg xz] at hk; cases hk)
     have d2 := hdep { on := 2, ground := .data } (by simp) rfl _ rfl
     obtain ⟨ysl, ha, hy⟩ := hL.puts [24, 25, 26, 27, 28, 29, 30, 31] (by kernel_rfl)
     have e2 : ysl 26 = .pointer (some ⟨m, 0, none⟩) := (hy 26).symm.trans d2
     clear hdep hL hy d2
     simp only [List.foldl, List.setIfInBounds_toArray, List.set_cons_succ, List.set_cons_zero, e2] at ha
     subst ha
     clear e2
     refine wpOp_step rfl (fun K hK => ?_)
     go_simp
     exact hK _ _ ⟨_, rfl, (fun h => by cases h), (by first | rfl | (exact congrArg (Value.int .i64) (by rw [IntWalk.i64_left, IntWalk.wrap64_in _ (by omega)])) | simp), But.refl _ _, trivial⟩
    ·cases ho
     intro fu act u hW hB hsz hL hdep
     replace hB := hB [] (fun j hj hd k hk => by
      by_cases xz : j = 8
      ·subst xz; exact (depT_no hd (by kernel_rfl)).elim
      rw [if_neg xz] at hk; cases hk)
     have d3 := hdep { on := 3, ground := .data } (by simp) rfl _ rfl
     obtain ⟨ysl, ha, hy⟩ := hL.puts [24, 25, 26, 27, 28, 29, 30, 31] (by kernel_rfl)
     have e3 : ysl 27 = .pointer (some ⟨m, 11, none⟩) := (hy 27).symm.trans d3
     clear hdep hL hy d3
     simp only [List.foldl, List.setIfInBounds_toArray, List.set_cons_succ, List.set_cons_zero, e3] at ha
     subst ha
     clear e3
     have hm := HM.out.but hB (by simp) (by simp) (by simp) (by simp)
     have c := hm.cel 11 (by decide)
     simp only [mCells, List.getElem?_cons_succ, List.getElem?_cons_zero] at c
     clear hm
     refine wpOp_step rfl (fun K hK => ?_)
     go_simp
     exact hK _ _ ⟨_, rfl, (fun h => by cases h), (by first | rfl | (exact congrArg (Value.int .i64) (by rw [IntWalk.i64_left, IntWalk.wrap64_in _ (by omega)])) | simp), But.refl _ _, trivial⟩
    ·cases ho
     intro fu act u hW hB hsz hL hdep
     replace hB := hB [] (fun j hj hd k hk => by
      by_cases xz : j = 8
      ·subst xz; exact (depT_no hd (by kernel_rfl)).elim
      rw [if_neg xz] at hk; cases hk)
     have d0 := hdep { on := 0, ground := .data } (by simp) rfl _ rfl
     obtain ⟨ysl, ha, hy⟩ := hL.puts [24, 25, 26, 27, 28, 29, 30, 31] (by kernel_rfl)
     have e0 : ysl 24 = .pointer (some ⟨m, 0, none⟩) := (hy 24).symm.trans d0
     clear hdep hL hy d0
     simp only [List.foldl, List.setIfInBounds_toArray, List.set_cons_succ, List.set_cons_zero, e0] at ha
     subst ha
     clear e0
     refine wpOp_step rfl (fun K hK => ?_)
     go_simp
     exact hK _ _ ⟨_, rfl, (fun h => by cases h), (by first | rfl | (exact congrArg (Value.int .i64) (by rw [IntWalk.i64_left, IntWalk.wrap64_in _ (by omega)])) | simp), But.refl _ _, trivial⟩
    ·cases ho
     intro fu act u hW hB hsz hL hdep
     replace hB := hB [] (fun j hj hd k hk => by
      by_cases xz : j = 8
      ·subst xz; exact (depT_no hd (by kernel_rfl)).elim
      rw [if_neg xz] at hk; cases hk)
     have d5 := hdep { on := 5, ground := .data } (by simp) rfl _ rfl
     obtain ⟨ysl, ha, hy⟩ := hL.puts [24, 25, 26, 27, 28, 29, 30, 31] (by kernel_rfl)
     have e5 : ysl 29 = .pointer (some ⟨m, 0, none⟩) := (hy 29).symm.trans d5
     clear hdep hL hy d5
     simp only [List.foldl, List.setIfInBounds_toArray, List.set_cons_succ, List.set_cons_zero, e5] at ha
     subst ha
     clear e5
     refine wpOp_step rfl (fun K hK => ?_)
     go_simp
     exact hK _ _ ⟨_, rfl, (fun h => by cases h), (by first | rfl | (exact congrArg (Value.int .i64) (by rw [IntWalk.i64_left, IntWalk.wrap64_in _ (by omega)])) | simp), But.refl _ _, trivial⟩
    ·cases ho
     intro fu act u hW hB hsz hL hdep
     replace hB := hB [] (fun j hj hd k hk => by
      by_cases xz : j = 8
      ·subst xz; exact (depT_no hd (by kernel_rfl)).elim
      rw [if_neg xz] at hk; cases hk)
     have d6 := hdep { on := 6, ground := .data } (by simp) rfl _ rfl
     obtain ⟨ysl, ha, hy⟩ := hL.puts [24, 25, 26, 27, 28, 29, 30, 31] (by kernel_rfl)
     have e6 : ysl 30 = .pointer (some ⟨m, 0, none⟩) := (hy 30).symm.trans d6
     clear hdep hL hy d6
     simp only [List.foldl, List.setIfInBounds_toArray, List.set_cons_succ, List.set_cons_zero, e6] at ha
     subst ha
     clear e6
     refine wpOp_step rfl (fun K hK => ?_)
     go_simp
     exact hK _ _ ⟨_, rfl, (fun h => by cases h), (by first | rfl | (exact congrArg (Value.int .i64) (by rw [IntWalk.i64_left, IntWalk.wrap64_in _ (by omega)])) | simp), But.refl _ _, trivial⟩
    ·cases ho
     intro fu act u hW hB hsz hL hdep
     replace hB := hB [] (fun j hj hd k hk => by
      rw [if_neg hj] at hk; cases hk)
     have d4 := hdep { on := 4, ground := .data } (by simp) rfl _ rfl
     have d7 := hdep { on := 7, ground := .data } (by simp) rfl _ rfl
     obtain ⟨ysl, ha, hy⟩ := hL.puts [24, 25, 26, 27, 28, 29, 30, 31] (by kernel_rfl)
     have e4 : ysl 28 = .int .i64 s'.pc := (hy 28).symm.trans d4
     have e7 : ysl 31 = .pointer (some ⟨m, 0, none⟩) := (hy 31).symm.trans d7
     clear hdep hL hy d4 d7
     simp only [List.foldl, List.setIfInBounds_toArray, List.set_cons_succ, List.set_cons_zero, e4, e7] at ha
     subst ha
     clear e4 e7
     have hm := (HM.out.but hB (by simp) (by simp) (by simp) (by simp))
     have c := hm.cel 0 (by decide)
     have c' := hm.fro 0 (by decide)
     simp only [mCells, List.getElem?_cons_succ, List.getElem?_cons_zero] at c
     refine wpOp_step rfl (fun K hK => ?_)
     go_simp
     exact hK _ _ ⟨undef, rfl, (fun _ => rfl), ⟨trivial, hm.set (s' := s') (e' := e') (nx' := s'.pc) 0 (.int .i64 s'.pc) (by decide) rfl rfl rfl rfl⟩, (But.refl [m] u).set m _ _ (.inl (by simp)), trivial⟩
    ·exact absurd ho (by simp)
   case fin =>
    intro act u hW hsz hB hL hsf
    replace hB := hB [m] (fun j k hk => by
     by_cases yz : j = 8
     ·rw [if_pos yz] at hk; exact hk
     rw [if_neg yz] at hk
     cases hk)
    have d8 := hsf 8 _ rfl
    obtain ⟨ysl, ha, hy⟩ := hL.puts [24, 25, 26, 27, 28, 29, 30, 31] (by kernel_rfl)
    clear hL hsf hy
    simp only [List.foldl, List.setIfInBounds_toArray, List.set_cons_succ, List.set_cons_zero] at ha
    subst ha
    obtain ⟨_, hM9⟩ := d8
    have HB9 := HF.out.trans (hB.up' (L' := [m, gr, gc, gm]) (fun k hk => by simp at hk ⊢; omega))
    go_wp2_with fail
    refine leaves_cons (f := 73) (args := #[.pointer (some ⟨ub.heap.size, 0, none⟩)]) (by simp) (by simp [go_sem]) ?_
    refine (step1_idle ub.heap.size _).mono ?_
    rintro r u' w'' ⟨rfl, rfl, rfl⟩
    have hfin : StepM m gr gc gm cr cc cm s true ub (.returned (.tuple #[])) _ := ⟨rfl, ⟨s'.pc, by rw [HST.out]; exact hM9⟩, HB9⟩
    simp [go_sem, settle, Leaves, results, Tryd.results51]
    exact hfin
theorem impl_step (u : World) (m gr gc gm cr cc cm : Nat) (s : St) (ring : Bool) (h : Mx u m gr gc gm cr cc cm s (ev0 s) (nx s)) (hk : OkS s) (ht : Tabs u) (hg : 2 ≤ m) :
  Calls Tryd.prog 51 #[.pointer (some ⟨m, 0, none⟩), .bool ring] u (StepM m gr gc gm cr cc cm s ring u) := by
 by_cases hnr : ring = true ∧ usr s.C = true
 ·exact impl_step_ring u m gr gc gm cr cc cm s ring h hk hnr.1 hnr.2
 ·cases hr : ring
  ·rw [hr] at hnr; exact impl_step_false u m gr gc gm cr cc cm s false h hk ht hg rfl hnr
  ·rw [hr] at hnr; exact impl_step_true u m gr gc gm cr cc cm s true h hk ht hg rfl hnr

end Go.Proofs.YtbjapncfgancoaaDoor
