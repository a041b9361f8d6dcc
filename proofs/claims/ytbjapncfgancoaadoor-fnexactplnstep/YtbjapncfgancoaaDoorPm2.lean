/- What each of the sixteen methods of the program's machine does. -/
import Derived.Test.YtbjapncfgancoaaDoorPm1
import Derived.Test.YtbjapncfgancoaaDoorRegion5
import Derived.Test.YtbjapncfgancoaaDoorPl13
namespace Go.Proofs.YtbjapncfgancoaaDoor
open Go.RowKit
set_option linter.unusedVariables false
set_option linter.unusedSimpArgs false
/-- Behind a method: the machine has stopped, or done what it does. -/
def EfP (o : Out) (m gr gc gm cr cc cm : Nat) (s : St) (e : Ev) (u : World) (r : Ending) (u' : World) : Prop :=
  match o with
  | .stop why => r = trapE why ∧ Mx u' m gr gc gm cr cc cm s e (nx s) ∧ But [m, gr, gc, gm] u u'
  | .go s' e' => r = .returned (.tuple #[]) ∧ Mx u' m gr gc gm cr cc cm ⟨s.pc, s'.R, s'.C, s'.M⟩ e' s'.pc ∧ But [m, gr, gc, gm] u u'
theorem num_bd {k n : Int} (h : numOk k n = true) : -256 ≤ n ∧ n ≤ 511 := by
  unfold numOk at h
  split at h
  · have : n = 0 := by simpa using h
    omega
  · split at h
    · have := of_decide_eq_true h; omega
    · split at h
      · have := of_decide_eq_true h; omega
      · have := of_decide_eq_true h; omega
theorem f_bd {k f : Int} (h : 0 ≤ f ∧ f ≤ topF k) : 0 ≤ f ∧ f ≤ 7 := by
  obtain ⟨h0, h1⟩ := h
  unfold topF at h1
  split at h1
  · omega
  · split at h1 <;> omega
theorem But.up {L L' : List Nat} {w w' : World} (h : But L w w') (hL : ∀ k, k ∈ L → k ∈ L') : But L' w w' := h.mono (fun k hk _ => hL k hk)
set_option maxRecDepth 8000 in
set_option maxHeartbeats 4000000 in
theorem ef_alu (u : World) (m gr gc gm cr cc cm : Nat) (s : St) (e : Ev) (d a b f n : Int) (h : Mx u m gr gc gm cr cc cm s e (nx s)) (hk : OkS s) (hi : iok 0 d a b f n = true) :
    Calls Tryd.prog 92 #[.pointer (some ⟨m, 0, none⟩), .agg #[.int .i64 0, .int .i64 d, .int .i64 a, .int .i64 b, .int .i64 f, .int .i64 n]] u (EfP (effS s e 0 d a b f n) m gr gc gm cr cc cm s e u) := by
  rw [eff_0]
  obtain ⟨⟨d0, d7⟩, ⟨a0, a7⟩, ⟨b0, b7⟩, _⟩ := sok_bd (sok_of hi)
  obtain ⟨n0, n1⟩ := num_bd (iok_num hi)
  obtain ⟨f0, f7⟩ := f_bd (iok_f hi)
  have hlm := h.lt
  have hnx : 0 ≤ nx s ∧ nx s < 65536 := by unfold nx; omega
  have hR := Lib.hid hk.Rl
  have HK := Lib.hid hk
  have qva := ok_get hk.R a.toNat
  have qvb := ok_get hk.R b.toNat
  have F0 := Fr.alloc u (.cells #[.int .i64 0, .int .i64 d, .int .i64 a, .int .i64 b, .int .i64 f, .int .i64 n] 48)
  have HM := Lib.hid (h.fr F0)
  have HX0 := Lib.hid (Box.new u 0 d a b f n 48)
  have HF := Lib.hid F0
  have ho := h.ow
  have lr := ho.R.lt
  have lc := ho.C.lt
  have lm := ho.M.lt
  clear h hk F0 ho
  obtain ⟨va, hva⟩ : ∃ x, s.R.getD a.toNat 0 = x := ⟨_, rfl⟩
  rw [hva] at qva
  obtain ⟨qva0, qva1⟩ := qva
  obtain ⟨vb, hvb⟩ : ∃ x, s.R.getD b.toNat 0 = x := ⟨_, rfl⟩
  rw [hvb] at qvb
  obtain ⟨qvb0, qvb1⟩ := qvb
  simp only [put, goto, rg, mm, hva, hvb]
  go_enter Tryd.func92, Tryd.ntmps92
  go_wp2_with fail
  generalize (u.alloc (.cells #[.int .i64 0, .int .i64 d, .int .i64 a, .int .i64 b, .int .i64 f, .int .i64 n] 48)) = u0 at *
  have hz := HF.out.size
  have hXl := HX0.out.lt
  have HX := Lib.hid HX0.out
  clear HX0
  generalize hXe : u.heap.size = X at *
  refine wp_region_lots2 29 (fun i => if i = 24 then [m, gr] else []) (fun _ _ => True) (fun i v u => match i with | 0 => v = .pointer (some ⟨m, 0, none⟩) | 1 => v = .pointer (some ⟨X, 1, none⟩) | 2 => v = .int .i64 d | 3 => v = .pointer (some ⟨X, 4, none⟩) | 4 => v = .int .i64 f | 5 => v = .pointer (some ⟨m, 0, none⟩) | 6 => v = .pointer (some ⟨m, 0, none⟩) | 7 => v = .pointer (some ⟨m, 0, none⟩) | 8 => v = .pointer (some ⟨m, 1, none⟩) | 9 => v = .slice (some ⟨gr, 0, none⟩) 8 cr | 10 => v = .pointer (some ⟨X, 2, none⟩) | 11 => v = .int .i64 a | 12 => v = .pointer (some ⟨gr, a.toNat, none⟩) | 13 => v = .int .i64 va | 14 => v = .pointer (some ⟨m, 0, none⟩) | 15 => v = .pointer (some ⟨m, 0, none⟩) | 16 => v = .pointer (some ⟨m, 0, none⟩) | 17 => v = .pointer (some ⟨m, 1, none⟩) | 18 => v = .slice (some ⟨gr, 0, none⟩) 8 cr | 19 => v = .pointer (some ⟨X, 3, none⟩) | 20 => v = .int .i64 b | 21 => v = .pointer (some ⟨gr, b.toNat, none⟩) | 22 => v = .int .i64 vb | 23 => v = .int .i64 (aluD f va vb) | 24 => (v = .tuple #[] ∧ Mx u m gr gc gm cr cc cm ⟨s.pc, putR s.R d (aluD f va vb), s.C, s.M⟩ (putE e d (aluD f va vb)) (nx s)) | _ => True) ?mono (by kernel_rfl) (by kernel_rfl) rfl (by kernel_rfl) trivial ?step ?fin
  case mono =>
    intro i j v u u' hij hsz h hB
    rcases j with _ | _ | _ | _ | _ | _ | _ | _ | _ | _ | _ | _ | _ | _ | _ | _ | _ | _ | _ | _ | _ | _ | _ | _ | _ | j
    · exact h
    · exact h
    · exact h
    · exact h
    · exact h
    · exact h
    · exact h
    · exact h
    · exact h
    · exact h
    · exact h
    · exact h
    · exact h
    · exact h
    · exact h
    · exact h
    · exact h
    · exact h
    · exact h
    · exact h
    · exact h
    · exact h
    · exact h
    · exact h
    · exact (by have hB2 : But [] u u' := (by have hx := hB; simp only [if_neg hij] at hx; exact hx); exact ⟨h.1, h.2.but hB2 (by simp) (by simp) (by simp) (by simp)⟩)
    · trivial
  case step =>
    intro i o ho
    rcases i with _ | _ | _ | _ | _ | _ | _ | _ | _ | _ | _ | _ | _ | _ | _ | _ | _ | _ | _ | _ | _ | _ | _ | _ | _ | i
    · cases ho
      intro fu act u hW hB hsz hL hdep
      replace hB := hB [] (fun j hj hd k hk => by
        by_cases xz : j = 24
        · subst xz; exact (depT_no hd (by kernel_rfl)).elim
        rw [if_neg xz] at hk; cases hk)
      obtain ⟨ysl, ha, hy⟩ := hL.puts [4, 5, 6, 7, 8, 9, 10, 11, 12, 13, 14, 15, 16, 17, 18, 19, 20, 21, 22, 23, 24, 25, 26, 27, 28] (by kernel_rfl)
      clear hdep hL hy
      simp only [List.foldl, List.setIfInBounds_toArray, List.set_cons_succ, List.set_cons_zero] at ha
      subst ha
      refine wpOp_step rfl (fun K hK => ?_)
      go_simp
      exact hK _ _ ⟨_, rfl, (fun h => by cases h), (by first | rfl | (exact congrArg (Value.int .i64) (by rw [IntWalk.i64_left, IntWalk.wrap64_in _ (by omega)])) | simp), But.refl _ _, trivial⟩
    · cases ho
      intro fu act u hW hB hsz hL hdep
      replace hB := hB [] (fun j hj hd k hk => by
        by_cases xz : j = 24
        · subst xz; exact (depT_no hd (by kernel_rfl)).elim
        rw [if_neg xz] at hk; cases hk)
      obtain ⟨ysl, ha, hy⟩ := hL.puts [4, 5, 6, 7, 8, 9, 10, 11, 12, 13, 14, 15, 16, 17, 18, 19, 20, 21, 22, 23, 24, 25, 26, 27, 28] (by kernel_rfl)
      clear hdep hL hy
      simp only [List.foldl, List.setIfInBounds_toArray, List.set_cons_succ, List.set_cons_zero] at ha
      subst ha
      refine wpOp_step rfl (fun K hK => ?_)
      go_simp
      exact hK _ _ ⟨_, rfl, (fun h => by cases h), (by first | rfl | (exact congrArg (Value.int .i64) (by rw [IntWalk.i64_left, IntWalk.wrap64_in _ (by omega)])) | simp), But.refl _ _, trivial⟩
    · cases ho
      intro fu act u hW hB hsz hL hdep
      replace hB := hB [] (fun j hj hd k hk => by
        by_cases xz : j = 24
        · subst xz; exact (depT_no hd (by kernel_rfl)).elim
        rw [if_neg xz] at hk; cases hk)
      have d1 := hdep { on := 1, ground := .data } (by simp) rfl _ rfl
      obtain ⟨ysl, ha, hy⟩ := hL.puts [4, 5, 6, 7, 8, 9, 10, 11, 12, 13, 14, 15, 16, 17, 18, 19, 20, 21, 22, 23, 24, 25, 26, 27, 28] (by kernel_rfl)
      have e1 : ysl 5 = .pointer (some ⟨X, 1, none⟩) := (hy 5).symm.trans d1
      clear hdep hL hy d1
      simp only [List.foldl, List.setIfInBounds_toArray, List.set_cons_succ, List.set_cons_zero, e1] at ha
      subst ha
      clear e1
      have c := (HX.out.but hB (by simp)).c1
      refine wpOp_step rfl (fun K hK => ?_)
      go_simp
      exact hK _ _ ⟨_, rfl, (fun h => by cases h), (by first | rfl | (exact congrArg (Value.int .i64) (by rw [IntWalk.i64_left, IntWalk.wrap64_in _ (by omega)])) | simp), But.refl _ _, trivial⟩
    · cases ho
      intro fu act u hW hB hsz hL hdep
      replace hB := hB [] (fun j hj hd k hk => by
        by_cases xz : j = 24
        · subst xz; exact (depT_no hd (by kernel_rfl)).elim
        rw [if_neg xz] at hk; cases hk)
      obtain ⟨ysl, ha, hy⟩ := hL.puts [4, 5, 6, 7, 8, 9, 10, 11, 12, 13, 14, 15, 16, 17, 18, 19, 20, 21, 22, 23, 24, 25, 26, 27, 28] (by kernel_rfl)
      clear hdep hL hy
      simp only [List.foldl, List.setIfInBounds_toArray, List.set_cons_succ, List.set_cons_zero] at ha
      subst ha
      refine wpOp_step rfl (fun K hK => ?_)
      go_simp
      exact hK _ _ ⟨_, rfl, (fun h => by cases h), (by first | rfl | (exact congrArg (Value.int .i64) (by rw [IntWalk.i64_left, IntWalk.wrap64_in _ (by omega)])) | simp), But.refl _ _, trivial⟩
    · cases ho
      intro fu act u hW hB hsz hL hdep
      replace hB := hB [] (fun j hj hd k hk => by
        by_cases xz : j = 24
        · subst xz; exact (depT_no hd (by kernel_rfl)).elim
        rw [if_neg xz] at hk; cases hk)
      have d3 := hdep { on := 3, ground := .data } (by simp) rfl _ rfl
      obtain ⟨ysl, ha, hy⟩ := hL.puts [4, 5, 6, 7, 8, 9, 10, 11, 12, 13, 14, 15, 16, 17, 18, 19, 20, 21, 22, 23, 24, 25, 26, 27, 28] (by kernel_rfl)
      have e3 : ysl 7 = .pointer (some ⟨X, 4, none⟩) := (hy 7).symm.trans d3
      clear hdep hL hy d3
      simp only [List.foldl, List.setIfInBounds_toArray, List.set_cons_succ, List.set_cons_zero, e3] at ha
      subst ha
      clear e3
      have c := (HX.out.but hB (by simp)).c4
      refine wpOp_step rfl (fun K hK => ?_)
      go_simp
      exact hK _ _ ⟨_, rfl, (fun h => by cases h), (by first | rfl | (exact congrArg (Value.int .i64) (by rw [IntWalk.i64_left, IntWalk.wrap64_in _ (by omega)])) | simp), But.refl _ _, trivial⟩
    · cases ho
      intro fu act u hW hB hsz hL hdep
      replace hB := hB [] (fun j hj hd k hk => by
        by_cases xz : j = 24
        · subst xz; exact (depT_no hd (by kernel_rfl)).elim
        rw [if_neg xz] at hk; cases hk)
      obtain ⟨ysl, ha, hy⟩ := hL.puts [4, 5, 6, 7, 8, 9, 10, 11, 12, 13, 14, 15, 16, 17, 18, 19, 20, 21, 22, 23, 24, 25, 26, 27, 28] (by kernel_rfl)
      clear hdep hL hy
      simp only [List.foldl, List.setIfInBounds_toArray, List.set_cons_succ, List.set_cons_zero] at ha
      subst ha
      refine wpOp_step rfl (fun K hK => ?_)
      go_simp
      exact hK _ _ ⟨_, rfl, (fun h => by cases h), (by first | rfl | (exact congrArg (Value.int .i64) (by rw [IntWalk.i64_left, IntWalk.wrap64_in _ (by omega)])) | simp), But.refl _ _, trivial⟩
    · cases ho
      intro fu act u hW hB hsz hL hdep
      replace hB := hB [] (fun j hj hd k hk => by
        by_cases xz : j = 24
        · subst xz; exact (depT_no hd (by kernel_rfl)).elim
        rw [if_neg xz] at hk; cases hk)
      have d5 := hdep { on := 5, ground := .data } (by simp) rfl _ rfl
      obtain ⟨ysl, ha, hy⟩ := hL.puts [4, 5, 6, 7, 8, 9, 10, 11, 12, 13, 14, 15, 16, 17, 18, 19, 20, 21, 22, 23, 24, 25, 26, 27, 28] (by kernel_rfl)
      have e5 : ysl 9 = .pointer (some ⟨m, 0, none⟩) := (hy 9).symm.trans d5
      clear hdep hL hy d5
      simp only [List.foldl, List.setIfInBounds_toArray, List.set_cons_succ, List.set_cons_zero, e5] at ha
      subst ha
      clear e5
      refine wpOp_step rfl (fun K hK => ?_)
      go_simp
      exact hK _ _ ⟨_, rfl, (fun h => by cases h), (by first | rfl | (exact congrArg (Value.int .i64) (by rw [IntWalk.i64_left, IntWalk.wrap64_in _ (by omega)])) | simp), But.refl _ _, trivial⟩
    · cases ho
      intro fu act u hW hB hsz hL hdep
      replace hB := hB [] (fun j hj hd k hk => by
        by_cases xz : j = 24
        · subst xz; exact (depT_no hd (by kernel_rfl)).elim
        rw [if_neg xz] at hk; cases hk)
      have d6 := hdep { on := 6, ground := .data } (by simp) rfl _ rfl
      obtain ⟨ysl, ha, hy⟩ := hL.puts [4, 5, 6, 7, 8, 9, 10, 11, 12, 13, 14, 15, 16, 17, 18, 19, 20, 21, 22, 23, 24, 25, 26, 27, 28] (by kernel_rfl)
      have e6 : ysl 10 = .pointer (some ⟨m, 0, none⟩) := (hy 10).symm.trans d6
      clear hdep hL hy d6
      simp only [List.foldl, List.setIfInBounds_toArray, List.set_cons_succ, List.set_cons_zero, e6] at ha
      subst ha
      clear e6
      refine wpOp_step rfl (fun K hK => ?_)
      go_simp
      exact hK _ _ ⟨_, rfl, (fun h => by cases h), (by first | rfl | (exact congrArg (Value.int .i64) (by rw [IntWalk.i64_left, IntWalk.wrap64_in _ (by omega)])) | simp), But.refl _ _, trivial⟩
    · cases ho
      intro fu act u hW hB hsz hL hdep
      replace hB := hB [] (fun j hj hd k hk => by
        by_cases xz : j = 24
        · subst xz; exact (depT_no hd (by kernel_rfl)).elim
        rw [if_neg xz] at hk; cases hk)
      have d7 := hdep { on := 7, ground := .data } (by simp) rfl _ rfl
      obtain ⟨ysl, ha, hy⟩ := hL.puts [4, 5, 6, 7, 8, 9, 10, 11, 12, 13, 14, 15, 16, 17, 18, 19, 20, 21, 22, 23, 24, 25, 26, 27, 28] (by kernel_rfl)
      have e7 : ysl 11 = .pointer (some ⟨m, 0, none⟩) := (hy 11).symm.trans d7
      clear hdep hL hy d7
      simp only [List.foldl, List.setIfInBounds_toArray, List.set_cons_succ, List.set_cons_zero, e7] at ha
      subst ha
      clear e7
      refine wpOp_step rfl (fun K hK => ?_)
      go_simp
      exact hK _ _ ⟨_, rfl, (fun h => by cases h), (by first | rfl | (exact congrArg (Value.int .i64) (by rw [IntWalk.i64_left, IntWalk.wrap64_in _ (by omega)])) | simp), But.refl _ _, trivial⟩
    · cases ho
      intro fu act u hW hB hsz hL hdep
      replace hB := hB [] (fun j hj hd k hk => by
        by_cases xz : j = 24
        · subst xz; exact (depT_no hd (by kernel_rfl)).elim
        rw [if_neg xz] at hk; cases hk)
      have d8 := hdep { on := 8, ground := .data } (by simp) rfl _ rfl
      obtain ⟨ysl, ha, hy⟩ := hL.puts [4, 5, 6, 7, 8, 9, 10, 11, 12, 13, 14, 15, 16, 17, 18, 19, 20, 21, 22, 23, 24, 25, 26, 27, 28] (by kernel_rfl)
      have e8 : ysl 12 = .pointer (some ⟨m, 1, none⟩) := (hy 12).symm.trans d8
      clear hdep hL hy d8
      simp only [List.foldl, List.setIfInBounds_toArray, List.set_cons_succ, List.set_cons_zero, e8] at ha
      subst ha
      clear e8
      have hm := HM.out.but hB (by simp) (by simp) (by simp) (by simp)
      have c := hm.cel 1 (by decide)
      simp only [mCells, List.getElem?_cons_succ, List.getElem?_cons_zero] at c
      clear hm
      refine wpOp_step rfl (fun K hK => ?_)
      go_simp
      exact hK _ _ ⟨_, rfl, (fun h => by cases h), (by first | rfl | (exact congrArg (Value.int .i64) (by rw [IntWalk.i64_left, IntWalk.wrap64_in _ (by omega)])) | simp), But.refl _ _, trivial⟩
    · cases ho
      intro fu act u hW hB hsz hL hdep
      replace hB := hB [] (fun j hj hd k hk => by
        by_cases xz : j = 24
        · subst xz; exact (depT_no hd (by kernel_rfl)).elim
        rw [if_neg xz] at hk; cases hk)
      obtain ⟨ysl, ha, hy⟩ := hL.puts [4, 5, 6, 7, 8, 9, 10, 11, 12, 13, 14, 15, 16, 17, 18, 19, 20, 21, 22, 23, 24, 25, 26, 27, 28] (by kernel_rfl)
      clear hdep hL hy
      simp only [List.foldl, List.setIfInBounds_toArray, List.set_cons_succ, List.set_cons_zero] at ha
      subst ha
      refine wpOp_step rfl (fun K hK => ?_)
      go_simp
      exact hK _ _ ⟨_, rfl, (fun h => by cases h), (by first | rfl | (exact congrArg (Value.int .i64) (by rw [IntWalk.i64_left, IntWalk.wrap64_in _ (by omega)])) | simp), But.refl _ _, trivial⟩
    · cases ho
      intro fu act u hW hB hsz hL hdep
      replace hB := hB [] (fun j hj hd k hk => by
        by_cases xz : j = 24
        · subst xz; exact (depT_no hd (by kernel_rfl)).elim
        rw [if_neg xz] at hk; cases hk)
      have d10 := hdep { on := 10, ground := .data } (by simp) rfl _ rfl
      obtain ⟨ysl, ha, hy⟩ := hL.puts [4, 5, 6, 7, 8, 9, 10, 11, 12, 13, 14, 15, 16, 17, 18, 19, 20, 21, 22, 23, 24, 25, 26, 27, 28] (by kernel_rfl)
      have e10 : ysl 14 = .pointer (some ⟨X, 2, none⟩) := (hy 14).symm.trans d10
      clear hdep hL hy d10
      simp only [List.foldl, List.setIfInBounds_toArray, List.set_cons_succ, List.set_cons_zero, e10] at ha
      subst ha
      clear e10
      have c := (HX.out.but hB (by simp)).c2
      refine wpOp_step rfl (fun K hK => ?_)
      go_simp
      exact hK _ _ ⟨_, rfl, (fun h => by cases h), (by first | rfl | (exact congrArg (Value.int .i64) (by rw [IntWalk.i64_left, IntWalk.wrap64_in _ (by omega)])) | simp), But.refl _ _, trivial⟩
    · cases ho
      intro fu act u hW hB hsz hL hdep
      replace hB := hB [] (fun j hj hd k hk => by
        by_cases xz : j = 24
        · subst xz; exact (depT_no hd (by kernel_rfl)).elim
        rw [if_neg xz] at hk; cases hk)
      have d9 := hdep { on := 9, ground := .data } (by simp) rfl _ rfl
      have d11 := hdep { on := 11, ground := .data } (by simp) rfl _ rfl
      obtain ⟨ysl, ha, hy⟩ := hL.puts [4, 5, 6, 7, 8, 9, 10, 11, 12, 13, 14, 15, 16, 17, 18, 19, 20, 21, 22, 23, 24, 25, 26, 27, 28] (by kernel_rfl)
      have e9 : ysl 13 = .slice (some ⟨gr, 0, none⟩) 8 cr := (hy 13).symm.trans d9
      have e11 : ysl 15 = .int .i64 a := (hy 15).symm.trans d11
      clear hdep hL hy d9 d11
      simp only [List.foldl, List.setIfInBounds_toArray, List.set_cons_succ, List.set_cons_zero, e9, e11] at ha
      subst ha
      clear e9 e11
      have ix0 : 0 ≤ a := by omega
      have ix1 : a < 8 := by omega
      refine wpOp_step rfl (fun K hK => ?_)
      go_simp
      exact hK _ _ ⟨_, rfl, (fun h => by cases h), (by first | rfl | (exact congrArg (Value.int .i64) (by rw [IntWalk.i64_left, IntWalk.wrap64_in _ (by omega)])) | simp), But.refl _ _, trivial⟩
    · cases ho
      intro fu act u hW hB hsz hL hdep
      replace hB := hB [] (fun j hj hd k hk => by
        by_cases xz : j = 24
        · subst xz; exact (depT_no hd (by kernel_rfl)).elim
        rw [if_neg xz] at hk; cases hk)
      have d12 := hdep { on := 12, ground := .data } (by simp) rfl _ rfl
      obtain ⟨ysl, ha, hy⟩ := hL.puts [4, 5, 6, 7, 8, 9, 10, 11, 12, 13, 14, 15, 16, 17, 18, 19, 20, 21, 22, 23, 24, 25, 26, 27, 28] (by kernel_rfl)
      have e12 : ysl 16 = .pointer (some ⟨gr, a.toNat, none⟩) := (hy 16).symm.trans d12
      clear hdep hL hy d12
      simp only [List.foldl, List.setIfInBounds_toArray, List.set_cons_succ, List.set_cons_zero, e12] at ha
      subst ha
      clear e12
      have hm := HM.out.but hB (by simp) (by simp) (by simp) (by simp)
      have c := hm.ow.R.cel (a.toNat) (by have h1 := HK.out.Rl; have h2 := HK.out.Cl; have h3 := HK.out.Ml; omega)
      clear hm
      rw [hva] at c
      refine wpOp_step rfl (fun K hK => ?_)
      go_simp
      exact hK _ _ ⟨_, rfl, (fun h => by cases h), (by first | rfl | (exact congrArg (Value.int .i64) (by rw [IntWalk.i64_left, IntWalk.wrap64_in _ (by omega)])) | simp), But.refl _ _, trivial⟩
    · cases ho
      intro fu act u hW hB hsz hL hdep
      replace hB := hB [] (fun j hj hd k hk => by
        by_cases xz : j = 24
        · subst xz; exact (depT_no hd (by kernel_rfl)).elim
        rw [if_neg xz] at hk; cases hk)
      obtain ⟨ysl, ha, hy⟩ := hL.puts [4, 5, 6, 7, 8, 9, 10, 11, 12, 13, 14, 15, 16, 17, 18, 19, 20, 21, 22, 23, 24, 25, 26, 27, 28] (by kernel_rfl)
      clear hdep hL hy
      simp only [List.foldl, List.setIfInBounds_toArray, List.set_cons_succ, List.set_cons_zero] at ha
      subst ha
      refine wpOp_step rfl (fun K hK => ?_)
      go_simp
      exact hK _ _ ⟨_, rfl, (fun h => by cases h), (by first | rfl | (exact congrArg (Value.int .i64) (by rw [IntWalk.i64_left, IntWalk.wrap64_in _ (by omega)])) | simp), But.refl _ _, trivial⟩
    · cases ho
      intro fu act u hW hB hsz hL hdep
      replace hB := hB [] (fun j hj hd k hk => by
        by_cases xz : j = 24
        · subst xz; exact (depT_no hd (by kernel_rfl)).elim
        rw [if_neg xz] at hk; cases hk)
      have d14 := hdep { on := 14, ground := .data } (by simp) rfl _ rfl
      obtain ⟨ysl, ha, hy⟩ := hL.puts [4, 5, 6, 7, 8, 9, 10, 11, 12, 13, 14, 15, 16, 17, 18, 19, 20, 21, 22, 23, 24, 25, 26, 27, 28] (by kernel_rfl)
      have e14 : ysl 18 = .pointer (some ⟨m, 0, none⟩) := (hy 18).symm.trans d14
      clear hdep hL hy d14
      simp only [List.foldl, List.setIfInBounds_toArray, List.set_cons_succ, List.set_cons_zero, e14] at ha
      subst ha
      clear e14
      refine wpOp_step rfl (fun K hK => ?_)
      go_simp
      exact hK _ _ ⟨_, rfl, (fun h => by cases h), (by first | rfl | (exact congrArg (Value.int .i64) (by rw [IntWalk.i64_left, IntWalk.wrap64_in _ (by omega)])) | simp), But.refl _ _, trivial⟩
    · cases ho
      intro fu act u hW hB hsz hL hdep
      replace hB := hB [] (fun j hj hd k hk => by
        by_cases xz : j = 24
        · subst xz; exact (depT_no hd (by kernel_rfl)).elim
        rw [if_neg xz] at hk; cases hk)
      have d15 := hdep { on := 15, ground := .data } (by simp) rfl _ rfl
      obtain ⟨ysl, ha, hy⟩ := hL.puts [4, 5, 6, 7, 8, 9, 10, 11, 12, 13, 14, 15, 16, 17, 18, 19, 20, 21, 22, 23, 24, 25, 26, 27, 28] (by kernel_rfl)
      have e15 : ysl 19 = .pointer (some ⟨m, 0, none⟩) := (hy 19).symm.trans d15
      clear hdep hL hy d15
      simp only [List.foldl, List.setIfInBounds_toArray, List.set_cons_succ, List.set_cons_zero, e15] at ha
      subst ha
      clear e15
      refine wpOp_step rfl (fun K hK => ?_)
      go_simp
      exact hK _ _ ⟨_, rfl, (fun h => by cases h), (by first | rfl | (exact congrArg (Value.int .i64) (by rw [IntWalk.i64_left, IntWalk.wrap64_in _ (by omega)])) | simp), But.refl _ _, trivial⟩
    · cases ho
      intro fu act u hW hB hsz hL hdep
      replace hB := hB [] (fun j hj hd k hk => by
        by_cases xz : j = 24
        · subst xz; exact (depT_no hd (by kernel_rfl)).elim
        rw [if_neg xz] at hk; cases hk)
      have d16 := hdep { on := 16, ground := .data } (by simp) rfl _ rfl
      obtain ⟨ysl, ha, hy⟩ := hL.puts [4, 5, 6, 7, 8, 9, 10, 11, 12, 13, 14, 15, 16, 17, 18, 19, 20, 21, 22, 23, 24, 25, 26, 27, 28] (by kernel_rfl)
      have e16 : ysl 20 = .pointer (some ⟨m, 0, none⟩) := (hy 20).symm.trans d16
      clear hdep hL hy d16
      simp only [List.foldl, List.setIfInBounds_toArray, List.set_cons_succ, List.set_cons_zero, e16] at ha
      subst ha
      clear e16
      refine wpOp_step rfl (fun K hK => ?_)
      go_simp
      exact hK _ _ ⟨_, rfl, (fun h => by cases h), (by first | rfl | (exact congrArg (Value.int .i64) (by rw [IntWalk.i64_left, IntWalk.wrap64_in _ (by omega)])) | simp), But.refl _ _, trivial⟩
    · cases ho
      intro fu act u hW hB hsz hL hdep
      replace hB := hB [] (fun j hj hd k hk => by
        by_cases xz : j = 24
        · subst xz; exact (depT_no hd (by kernel_rfl)).elim
        rw [if_neg xz] at hk; cases hk)
      have d17 := hdep { on := 17, ground := .data } (by simp) rfl _ rfl
      obtain ⟨ysl, ha, hy⟩ := hL.puts [4, 5, 6, 7, 8, 9, 10, 11, 12, 13, 14, 15, 16, 17, 18, 19, 20, 21, 22, 23, 24, 25, 26, 27, 28] (by kernel_rfl)
      have e17 : ysl 21 = .pointer (some ⟨m, 1, none⟩) := (hy 21).symm.trans d17
      clear hdep hL hy d17
      simp only [List.foldl, List.setIfInBounds_toArray, List.set_cons_succ, List.set_cons_zero, e17] at ha
      subst ha
      clear e17
      have hm := HM.out.but hB (by simp) (by simp) (by simp) (by simp)
      have c := hm.cel 1 (by decide)
      simp only [mCells, List.getElem?_cons_succ, List.getElem?_cons_zero] at c
      clear hm
      refine wpOp_step rfl (fun K hK => ?_)
      go_simp
      exact hK _ _ ⟨_, rfl, (fun h => by cases h), (by first | rfl | (exact congrArg (Value.int .i64) (by rw [IntWalk.i64_left, IntWalk.wrap64_in _ (by omega)])) | simp), But.refl _ _, trivial⟩
    · cases ho
      intro fu act u hW hB hsz hL hdep
      replace hB := hB [] (fun j hj hd k hk => by
        by_cases xz : j = 24
        · subst xz; exact (depT_no hd (by kernel_rfl)).elim
        rw [if_neg xz] at hk; cases hk)
      obtain ⟨ysl, ha, hy⟩ := hL.puts [4, 5, 6, 7, 8, 9, 10, 11, 12, 13, 14, 15, 16, 17, 18, 19, 20, 21, 22, 23, 24, 25, 26, 27, 28] (by kernel_rfl)
      clear hdep hL hy
      simp only [List.foldl, List.setIfInBounds_toArray, List.set_cons_succ, List.set_cons_zero] at ha
      subst ha
      refine wpOp_step rfl (fun K hK => ?_)
      go_simp
      exact hK _ _ ⟨_, rfl, (fun h => by cases h), (by first | rfl | (exact congrArg (Value.int .i64) (by rw [IntWalk.i64_left, IntWalk.wrap64_in _ (by omega)])) | simp), But.refl _ _, trivial⟩
    · cases ho
      intro fu act u hW hB hsz hL hdep
      replace hB := hB [] (fun j hj hd k hk => by
        by_cases xz : j = 24
        · subst xz; exact (depT_no hd (by kernel_rfl)).elim
        rw [if_neg xz] at hk; cases hk)
      have d19 := hdep { on := 19, ground := .data } (by simp) rfl _ rfl
      obtain ⟨ysl, ha, hy⟩ := hL.puts [4, 5, 6, 7, 8, 9, 10, 11, 12, 13, 14, 15, 16, 17, 18, 19, 20, 21, 22, 23, 24, 25, 26, 27, 28] (by kernel_rfl)
      have e19 : ysl 23 = .pointer (some ⟨X, 3, none⟩) := (hy 23).symm.trans d19
      clear hdep hL hy d19
      simp only [List.foldl, List.setIfInBounds_toArray, List.set_cons_succ, List.set_cons_zero, e19] at ha
      subst ha
      clear e19
      have c := (HX.out.but hB (by simp)).c3
      refine wpOp_step rfl (fun K hK => ?_)
      go_simp
      exact hK _ _ ⟨_, rfl, (fun h => by cases h), (by first | rfl | (exact congrArg (Value.int .i64) (by rw [IntWalk.i64_left, IntWalk.wrap64_in _ (by omega)])) | simp), But.refl _ _, trivial⟩
    · cases ho
      intro fu act u hW hB hsz hL hdep
      replace hB := hB [] (fun j hj hd k hk => by
        by_cases xz : j = 24
        · subst xz; exact (depT_no hd (by kernel_rfl)).elim
        rw [if_neg xz] at hk; cases hk)
      have d18 := hdep { on := 18, ground := .data } (by simp) rfl _ rfl
      have d20 := hdep { on := 20, ground := .data } (by simp) rfl _ rfl
      obtain ⟨ysl, ha, hy⟩ := hL.puts [4, 5, 6, 7, 8, 9, 10, 11, 12, 13, 14, 15, 16, 17, 18, 19, 20, 21, 22, 23, 24, 25, 26, 27, 28] (by kernel_rfl)
      have e18 : ysl 22 = .slice (some ⟨gr, 0, none⟩) 8 cr := (hy 22).symm.trans d18
      have e20 : ysl 24 = .int .i64 b := (hy 24).symm.trans d20
      clear hdep hL hy d18 d20
      simp only [List.foldl, List.setIfInBounds_toArray, List.set_cons_succ, List.set_cons_zero, e18, e20] at ha
      subst ha
      clear e18 e20
      have ix0 : 0 ≤ b := by omega
      have ix1 : b < 8 := by omega
      refine wpOp_step rfl (fun K hK => ?_)
      go_simp
      exact hK _ _ ⟨_, rfl, (fun h => by cases h), (by first | rfl | (exact congrArg (Value.int .i64) (by rw [IntWalk.i64_left, IntWalk.wrap64_in _ (by omega)])) | simp), But.refl _ _, trivial⟩
    · cases ho
      intro fu act u hW hB hsz hL hdep
      replace hB := hB [] (fun j hj hd k hk => by
        by_cases xz : j = 24
        · subst xz; exact (depT_no hd (by kernel_rfl)).elim
        rw [if_neg xz] at hk; cases hk)
      have d21 := hdep { on := 21, ground := .data } (by simp) rfl _ rfl
      obtain ⟨ysl, ha, hy⟩ := hL.puts [4, 5, 6, 7, 8, 9, 10, 11, 12, 13, 14, 15, 16, 17, 18, 19, 20, 21, 22, 23, 24, 25, 26, 27, 28] (by kernel_rfl)
      have e21 : ysl 25 = .pointer (some ⟨gr, b.toNat, none⟩) := (hy 25).symm.trans d21
      clear hdep hL hy d21
      simp only [List.foldl, List.setIfInBounds_toArray, List.set_cons_succ, List.set_cons_zero, e21] at ha
      subst ha
      clear e21
      have hm := HM.out.but hB (by simp) (by simp) (by simp) (by simp)
      have c := hm.ow.R.cel (b.toNat) (by have h1 := HK.out.Rl; have h2 := HK.out.Cl; have h3 := HK.out.Ml; omega)
      clear hm
      rw [hvb] at c
      refine wpOp_step rfl (fun K hK => ?_)
      go_simp
      exact hK _ _ ⟨_, rfl, (fun h => by cases h), (by first | rfl | (exact congrArg (Value.int .i64) (by rw [IntWalk.i64_left, IntWalk.wrap64_in _ (by omega)])) | simp), But.refl _ _, trivial⟩
    · cases ho
      intro fu act u hW hB hsz hL hdep
      replace hB := hB [] (fun j hj hd k hk => by
        by_cases xz : j = 24
        · subst xz; exact (depT_no hd (by kernel_rfl)).elim
        rw [if_neg xz] at hk; cases hk)
      have d4 := hdep { on := 4, ground := .data } (by simp) rfl _ rfl
      have d13 := hdep { on := 13, ground := .data } (by simp) rfl _ rfl
      have d22 := hdep { on := 22, ground := .data } (by simp) rfl _ rfl
      obtain ⟨ysl, ha, hy⟩ := hL.puts [4, 5, 6, 7, 8, 9, 10, 11, 12, 13, 14, 15, 16, 17, 18, 19, 20, 21, 22, 23, 24, 25, 26, 27, 28] (by kernel_rfl)
      have e4 : ysl 8 = .int .i64 f := (hy 8).symm.trans d4
      have e13 : ysl 17 = .int .i64 va := (hy 17).symm.trans d13
      have e22 : ysl 26 = .int .i64 vb := (hy 26).symm.trans d22
      clear hdep hL hy d4 d13 d22
      simp only [List.foldl, List.setIfInBounds_toArray, List.set_cons_succ, List.set_cons_zero, e4, e13, e22] at ha
      subst ha
      clear e4 e13 e22
      refine wpOp_step rfl (fun K hK => ?_)
      go_simp
      refine (impl_AluDo _ _ _ u).mono ?_
      rintro r u' ⟨rfl, rfl⟩
      go_simp
      exact hK _ _ ⟨_, rfl, (fun h => by cases h), rfl, But.refl _ _, trivial⟩
    · cases ho
      intro fu act u hW hB hsz hL hdep
      replace hB := hB [] (fun j hj hd k hk => by
        rw [if_neg hj] at hk; cases hk)
      have d0 := hdep { on := 0, ground := .data } (by simp) rfl _ rfl
      have d2 := hdep { on := 2, ground := .data } (by simp) rfl _ rfl
      have d23 := hdep { on := 23, ground := .data } (by simp) rfl _ rfl
      obtain ⟨ysl, ha, hy⟩ := hL.puts [4, 5, 6, 7, 8, 9, 10, 11, 12, 13, 14, 15, 16, 17, 18, 19, 20, 21, 22, 23, 24, 25, 26, 27, 28] (by kernel_rfl)
      have e0 : ysl 4 = .pointer (some ⟨m, 0, none⟩) := (hy 4).symm.trans d0
      have e2 : ysl 6 = .int .i64 d := (hy 6).symm.trans d2
      have e23 : ysl 27 = .int .i64 (aluD f va vb) := (hy 27).symm.trans d23
      clear hdep hL hy d0 d2 d23
      simp only [List.foldl, List.setIfInBounds_toArray, List.set_cons_succ, List.set_cons_zero, e0, e2, e23] at ha
      subst ha
      clear e0 e2 e23
      refine wpOp_step rfl (fun K hK => ?_)
      go_simp
      refine (impl_put u m gr gc gm cr cc cm s e (nx s) d (aluD f va vb) (HM.out.but hB (by simp) (by simp) (by simp) (by simp)) hR.out d0 d7).mono ?_
      rintro r u' ⟨rfl, hM', hB'⟩
      go_simp
      exact hK _ _ ⟨_, rfl, (fun h => by cases h), ⟨rfl, hM'⟩, hB', trivial⟩
    · exact absurd ho (by simp)
  case fin =>
    intro act u hW hsz hB hL hsf
    replace hB := hB [m, gr] (fun j k hk => by
      by_cases yz : j = 24
      · rw [if_pos yz] at hk; exact hk
      rw [if_neg yz] at hk
      cases hk)
    have d24 := hsf 24 _ rfl
    obtain ⟨ysl, ha, hy⟩ := hL.puts [4, 5, 6, 7, 8, 9, 10, 11, 12, 13, 14, 15, 16, 17, 18, 19, 20, 21, 22, 23, 24, 25, 26, 27, 28] (by kernel_rfl)
    clear hL hsf hy
    simp only [List.foldl, List.setIfInBounds_toArray, List.set_cons_succ, List.set_cons_zero] at ha
    subst ha
    obtain ⟨_, hM'⟩ := d24
    go_wp2_with fail
    (first | refine bodyPost_end (results_none rfl _ _ _) rfl ?_ | refine bodyPost_ret (results_none rfl _ _ _) rfl ?_)
    exact ⟨rfl, hM', (((But.of HF.out).trans (hB.up (fun k hk => by simp at hk ⊢; omega))))⟩
set_option maxRecDepth 8000 in
set_option maxHeartbeats 4000000 in
theorem ef_addi (u : World) (m gr gc gm cr cc cm : Nat) (s : St) (e : Ev) (d a b f n : Int) (h : Mx u m gr gc gm cr cc cm s e (nx s)) (hk : OkS s) (hi : iok 1 d a b f n = true) :
    Calls Tryd.prog 93 #[.pointer (some ⟨m, 0, none⟩), .agg #[.int .i64 1, .int .i64 d, .int .i64 a, .int .i64 b, .int .i64 f, .int .i64 n]] u (EfP (effS s e 1 d a b f n) m gr gc gm cr cc cm s e u) := by
  rw [eff_1]
  obtain ⟨⟨d0, d7⟩, ⟨a0, a7⟩, ⟨b0, b7⟩, _⟩ := sok_bd (sok_of hi)
  obtain ⟨n0, n1⟩ := num_bd (iok_num hi)
  obtain ⟨f0, f7⟩ := f_bd (iok_f hi)
  have hlm := h.lt
  have hnx : 0 ≤ nx s ∧ nx s < 65536 := by unfold nx; omega
  have hR := Lib.hid hk.Rl
  have HK := Lib.hid hk
  have qva := ok_get hk.R a.toNat
  have F0 := Fr.alloc u (.cells #[.int .i64 1, .int .i64 d, .int .i64 a, .int .i64 b, .int .i64 f, .int .i64 n] 48)
  have HM := Lib.hid (h.fr F0)
  have HX0 := Lib.hid (Box.new u 1 d a b f n 48)
  have HF := Lib.hid F0
  have ho := h.ow
  have lr := ho.R.lt
  have lc := ho.C.lt
  have lm := ho.M.lt
  clear h hk F0 ho
  obtain ⟨va, hva⟩ : ∃ x, s.R.getD a.toNat 0 = x := ⟨_, rfl⟩
  rw [hva] at qva
  obtain ⟨qva0, qva1⟩ := qva
  simp only [put, goto, rg, mm, hva]
  go_enter Tryd.func93, Tryd.ntmps93
  go_wp2_with fail
  generalize (u.alloc (.cells #[.int .i64 1, .int .i64 d, .int .i64 a, .int .i64 b, .int .i64 f, .int .i64 n] 48)) = u0 at *
  have hz := HF.out.size
  have hXl := HX0.out.lt
  have HX := Lib.hid HX0.out
  clear HX0
  generalize hXe : u.heap.size = X at *
  refine wp_region_lots2 21 (fun i => if i = 16 then [m, gr] else []) (fun _ _ => True) (fun i v u => match i with | 0 => v = .pointer (some ⟨m, 0, none⟩) | 1 => v = .pointer (some ⟨X, 1, none⟩) | 2 => v = .int .i64 d | 3 => v = .pointer (some ⟨m, 0, none⟩) | 4 => v = .pointer (some ⟨m, 0, none⟩) | 5 => v = .pointer (some ⟨m, 0, none⟩) | 6 => v = .pointer (some ⟨m, 1, none⟩) | 7 => v = .slice (some ⟨gr, 0, none⟩) 8 cr | 8 => v = .pointer (some ⟨X, 2, none⟩) | 9 => v = .int .i64 a | 10 => v = .pointer (some ⟨gr, a.toNat, none⟩) | 11 => v = .int .i64 va | 12 => v = .pointer (some ⟨X, 5, none⟩) | 13 => v = .int .i64 n | 14 => v = .int .i64 (va + n) | 15 => v = .int .i64 ((va + n) % 65536) | 16 => (v = .tuple #[] ∧ Mx u m gr gc gm cr cc cm ⟨s.pc, putR s.R d ((va + n) % 65536), s.C, s.M⟩ (putE e d ((va + n) % 65536)) (nx s)) | _ => True) ?mono (by kernel_rfl) (by kernel_rfl) rfl (by kernel_rfl) trivial ?step ?fin
  case mono =>
    intro i j v u u' hij hsz h hB
    rcases j with _ | _ | _ | _ | _ | _ | _ | _ | _ | _ | _ | _ | _ | _ | _ | _ | _ | j
    · exact h
    · exact h
    · exact h
    · exact h
    · exact h
    · exact h
    · exact h
    · exact h
    · exact h
    · exact h
    · exact h
    · exact h
    · exact h
    · exact h
    · exact h
    · exact h
    · exact (by have hB2 : But [] u u' := (by have hx := hB; simp only [if_neg hij] at hx; exact hx); exact ⟨h.1, h.2.but hB2 (by simp) (by simp) (by simp) (by simp)⟩)
    · trivial
  case step =>
    intro i o ho
    rcases i with _ | _ | _ | _ | _ | _ | _ | _ | _ | _ | _ | _ | _ | _ | _ | _ | _ | i
    · cases ho
      intro fu act u hW hB hsz hL hdep
      replace hB := hB [] (fun j hj hd k hk => by
        by_cases xz : j = 16
        · subst xz; exact (depT_no hd (by kernel_rfl)).elim
        rw [if_neg xz] at hk; cases hk)
      obtain ⟨ysl, ha, hy⟩ := hL.puts [4, 5, 6, 7, 8, 9, 10, 11, 12, 13, 14, 15, 16, 17, 18, 19, 20] (by kernel_rfl)
      clear hdep hL hy
      simp only [List.foldl, List.setIfInBounds_toArray, List.set_cons_succ, List.set_cons_zero] at ha
      subst ha
      refine wpOp_step rfl (fun K hK => ?_)
      go_simp
      exact hK _ _ ⟨_, rfl, (fun h => by cases h), (by first | rfl | (exact congrArg (Value.int .i64) (by rw [IntWalk.i64_left, IntWalk.wrap64_in _ (by omega)])) | simp), But.refl _ _, trivial⟩
    · cases ho
      intro fu act u hW hB hsz hL hdep
      replace hB := hB [] (fun j hj hd k hk => by
        by_cases xz : j = 16
        · subst xz; exact (depT_no hd (by kernel_rfl)).elim
        rw [if_neg xz] at hk; cases hk)
      obtain ⟨ysl, ha, hy⟩ := hL.puts [4, 5, 6, 7, 8, 9, 10, 11, 12, 13, 14, 15, 16, 17, 18, 19, 20] (by kernel_rfl)
      clear hdep hL hy
      simp only [List.foldl, List.setIfInBounds_toArray, List.set_cons_succ, List.set_cons_zero] at ha
      subst ha
      refine wpOp_step rfl (fun K hK => ?_)
      go_simp
      exact hK _ _ ⟨_, rfl, (fun h => by cases h), (by first | rfl | (exact congrArg (Value.int .i64) (by rw [IntWalk.i64_left, IntWalk.wrap64_in _ (by omega)])) | simp), But.refl _ _, trivial⟩
    · cases ho
      intro fu act u hW hB hsz hL hdep
      replace hB := hB [] (fun j hj hd k hk => by
        by_cases xz : j = 16
        · subst xz; exact (depT_no hd (by kernel_rfl)).elim
        rw [if_neg xz] at hk; cases hk)
      have d1 := hdep { on := 1, ground := .data } (by simp) rfl _ rfl
      obtain ⟨ysl, ha, hy⟩ := hL.puts [4, 5, 6, 7, 8, 9, 10, 11, 12, 13, 14, 15, 16, 17, 18, 19, 20] (by kernel_rfl)
      have e1 : ysl 5 = .pointer (some ⟨X, 1, none⟩) := (hy 5).symm.trans d1
      clear hdep hL hy d1
      simp only [List.foldl, List.setIfInBounds_toArray, List.set_cons_succ, List.set_cons_zero, e1] at ha
      subst ha
      clear e1
      have c := (HX.out.but hB (by simp)).c1
      refine wpOp_step rfl (fun K hK => ?_)
      go_simp
      exact hK _ _ ⟨_, rfl, (fun h => by cases h), (by first | rfl | (exact congrArg (Value.int .i64) (by rw [IntWalk.i64_left, IntWalk.wrap64_in _ (by omega)])) | simp), But.refl _ _, trivial⟩
    · cases ho
      intro fu act u hW hB hsz hL hdep
      replace hB := hB [] (fun j hj hd k hk => by
        by_cases xz : j = 16
        · subst xz; exact (depT_no hd (by kernel_rfl)).elim
        rw [if_neg xz] at hk; cases hk)
      obtain ⟨ysl, ha, hy⟩ := hL.puts [4, 5, 6, 7, 8, 9, 10, 11, 12, 13, 14, 15, 16, 17, 18, 19, 20] (by kernel_rfl)
      clear hdep hL hy
      simp only [List.foldl, List.setIfInBounds_toArray, List.set_cons_succ, List.set_cons_zero] at ha
      subst ha
      refine wpOp_step rfl (fun K hK => ?_)
      go_simp
      exact hK _ _ ⟨_, rfl, (fun h => by cases h), (by first | rfl | (exact congrArg (Value.int .i64) (by rw [IntWalk.i64_left, IntWalk.wrap64_in _ (by omega)])) | simp), But.refl _ _, trivial⟩
    · cases ho
      intro fu act u hW hB hsz hL hdep
      replace hB := hB [] (fun j hj hd k hk => by
        by_cases xz : j = 16
        · subst xz; exact (depT_no hd (by kernel_rfl)).elim
        rw [if_neg xz] at hk; cases hk)
      have d3 := hdep { on := 3, ground := .data } (by simp) rfl _ rfl
      obtain ⟨ysl, ha, hy⟩ := hL.puts [4, 5, 6, 7, 8, 9, 10, 11, 12, 13, 14, 15, 16, 17, 18, 19, 20] (by kernel_rfl)
      have e3 : ysl 7 = .pointer (some ⟨m, 0, none⟩) := (hy 7).symm.trans d3
      clear hdep hL hy d3
      simp only [List.foldl, List.setIfInBounds_toArray, List.set_cons_succ, List.set_cons_zero, e3] at ha
      subst ha
      clear e3
      refine wpOp_step rfl (fun K hK => ?_)
      go_simp
      exact hK _ _ ⟨_, rfl, (fun h => by cases h), (by first | rfl | (exact congrArg (Value.int .i64) (by rw [IntWalk.i64_left, IntWalk.wrap64_in _ (by omega)])) | simp), But.refl _ _, trivial⟩
    · cases ho
      intro fu act u hW hB hsz hL hdep
      replace hB := hB [] (fun j hj hd k hk => by
        by_cases xz : j = 16
        · subst xz; exact (depT_no hd (by kernel_rfl)).elim
        rw [if_neg xz] at hk; cases hk)
      have d4 := hdep { on := 4, ground := .data } (by simp) rfl _ rfl
      obtain ⟨ysl, ha, hy⟩ := hL.puts [4, 5, 6, 7, 8, 9, 10, 11, 12, 13, 14, 15, 16, 17, 18, 19, 20] (by kernel_rfl)
      have e4 : ysl 8 = .pointer (some ⟨m, 0, none⟩) := (hy 8).symm.trans d4
      clear hdep hL hy d4
      simp only [List.foldl, List.setIfInBounds_toArray, List.set_cons_succ, List.set_cons_zero, e4] at ha
      subst ha
      clear e4
      refine wpOp_step rfl (fun K hK => ?_)
      go_simp
      exact hK _ _ ⟨_, rfl, (fun h => by cases h), (by first | rfl | (exact congrArg (Value.int .i64) (by rw [IntWalk.i64_left, IntWalk.wrap64_in _ (by omega)])) | simp), But.refl _ _, trivial⟩
    · cases ho
      intro fu act u hW hB hsz hL hdep
      replace hB := hB [] (fun j hj hd k hk => by
        by_cases xz : j = 16
        · subst xz; exact (depT_no hd (by kernel_rfl)).elim
        rw [if_neg xz] at hk; cases hk)
      have d5 := hdep { on := 5, ground := .data } (by simp) rfl _ rfl
      obtain ⟨ysl, ha, hy⟩ := hL.puts [4, 5, 6, 7, 8, 9, 10, 11, 12, 13, 14, 15, 16, 17, 18, 19, 20] (by kernel_rfl)
      have e5 : ysl 9 = .pointer (some ⟨m, 0, none⟩) := (hy 9).symm.trans d5
      clear hdep hL hy d5
      simp only [List.foldl, List.setIfInBounds_toArray, List.set_cons_succ, List.set_cons_zero, e5] at ha
      subst ha
      clear e5
      refine wpOp_step rfl (fun K hK => ?_)
      go_simp
      exact hK _ _ ⟨_, rfl, (fun h => by cases h), (by first | rfl | (exact congrArg (Value.int .i64) (by rw [IntWalk.i64_left, IntWalk.wrap64_in _ (by omega)])) | simp), But.refl _ _, trivial⟩
    · cases ho
      intro fu act u hW hB hsz hL hdep
      replace hB := hB [] (fun j hj hd k hk => by
        by_cases xz : j = 16
        · subst xz; exact (depT_no hd (by kernel_rfl)).elim
        rw [if_neg xz] at hk; cases hk)
      have d6 := hdep { on := 6, ground := .data } (by simp) rfl _ rfl
      obtain ⟨ysl, ha, hy⟩ := hL.puts [4, 5, 6, 7, 8, 9, 10, 11, 12, 13, 14, 15, 16, 17, 18, 19, 20] (by kernel_rfl)
      have e6 : ysl 10 = .pointer (some ⟨m, 1, none⟩) := (hy 10).symm.trans d6
      clear hdep hL hy d6
      simp only [List.foldl, List.setIfInBounds_toArray, List.set_cons_succ, List.set_cons_zero, e6] at ha
      subst ha
      clear e6
      have hm := HM.out.but hB (by simp) (by simp) (by simp) (by simp)
      have c := hm.cel 1 (by decide)
      simp only [mCells, List.getElem?_cons_succ, List.getElem?_cons_zero] at c
      clear hm
      refine wpOp_step rfl (fun K hK => ?_)
      go_simp
      exact hK _ _ ⟨_, rfl, (fun h => by cases h), (by first | rfl | (exact congrArg (Value.int .i64) (by rw [IntWalk.i64_left, IntWalk.wrap64_in _ (by omega)])) | simp), But.refl _ _, trivial⟩
    · cases ho
      intro fu act u hW hB hsz hL hdep
      replace hB := hB [] (fun j hj hd k hk => by
        by_cases xz : j = 16
        · subst xz; exact (depT_no hd (by kernel_rfl)).elim
        rw [if_neg xz] at hk; cases hk)
      obtain ⟨ysl, ha, hy⟩ := hL.puts [4, 5, 6, 7, 8, 9, 10, 11, 12, 13, 14, 15, 16, 17, 18, 19, 20] (by kernel_rfl)
      clear hdep hL hy
      simp only [List.foldl, List.setIfInBounds_toArray, List.set_cons_succ, List.set_cons_zero] at ha
      subst ha
      refine wpOp_step rfl (fun K hK => ?_)
      go_simp
      exact hK _ _ ⟨_, rfl, (fun h => by cases h), (by first | rfl | (exact congrArg (Value.int .i64) (by rw [IntWalk.i64_left, IntWalk.wrap64_in _ (by omega)])) | simp), But.refl _ _, trivial⟩
    · cases ho
      intro fu act u hW hB hsz hL hdep
      replace hB := hB [] (fun j hj hd k hk => by
        by_cases xz : j = 16
        · subst xz; exact (depT_no hd (by kernel_rfl)).elim
        rw [if_neg xz] at hk; cases hk)
      have d8 := hdep { on := 8, ground := .data } (by simp) rfl _ rfl
      obtain ⟨ysl, ha, hy⟩ := hL.puts [4, 5, 6, 7, 8, 9, 10, 11, 12, 13, 14, 15, 16, 17, 18, 19, 20] (by kernel_rfl)
      have e8 : ysl 12 = .pointer (some ⟨X, 2, none⟩) := (hy 12).symm.trans d8
      clear hdep hL hy d8
      simp only [List.foldl, List.setIfInBounds_toArray, List.set_cons_succ, List.set_cons_zero, e8] at ha
      subst ha
      clear e8
      have c := (HX.out.but hB (by simp)).c2
      refine wpOp_step rfl (fun K hK => ?_)
      go_simp
      exact hK _ _ ⟨_, rfl, (fun h => by cases h), (by first | rfl | (exact congrArg (Value.int .i64) (by rw [IntWalk.i64_left, IntWalk.wrap64_in _ (by omega)])) | simp), But.refl _ _, trivial⟩
    · cases ho
      intro fu act u hW hB hsz hL hdep
      replace hB := hB [] (fun j hj hd k hk => by
        by_cases xz : j = 16
        · subst xz; exact (depT_no hd (by kernel_rfl)).elim
        rw [if_neg xz] at hk; cases hk)
      have d7 := hdep { on := 7, ground := .data } (by simp) rfl _ rfl
      have d9 := hdep { on := 9, ground := .data } (by simp) rfl _ rfl
      obtain ⟨ysl, ha, hy⟩ := hL.puts [4, 5, 6, 7, 8, 9, 10, 11, 12, 13, 14, 15, 16, 17, 18, 19, 20] (by kernel_rfl)
      have e7 : ysl 11 = .slice (some ⟨gr, 0, none⟩) 8 cr := (hy 11).symm.trans d7
      have e9 : ysl 13 = .int .i64 a := (hy 13).symm.trans d9
      clear hdep hL hy d7 d9
      simp only [List.foldl, List.setIfInBounds_toArray, List.set_cons_succ, List.set_cons_zero, e7, e9] at ha
      subst ha
      clear e7 e9
      have ix0 : 0 ≤ a := by omega
      have ix1 : a < 8 := by omega
      refine wpOp_step rfl (fun K hK => ?_)
      go_simp
      exact hK _ _ ⟨_, rfl, (fun h => by cases h), (by first | rfl | (exact congrArg (Value.int .i64) (by rw [IntWalk.i64_left, IntWalk.wrap64_in _ (by omega)])) | simp), But.refl _ _, trivial⟩
    · cases ho
      intro fu act u hW hB hsz hL hdep
      replace hB := hB [] (fun j hj hd k hk => by
        by_cases xz : j = 16
        · subst xz; exact (depT_no hd (by kernel_rfl)).elim
        rw [if_neg xz] at hk; cases hk)
      have d10 := hdep { on := 10, ground := .data } (by simp) rfl _ rfl
      obtain ⟨ysl, ha, hy⟩ := hL.puts [4, 5, 6, 7, 8, 9, 10, 11, 12, 13, 14, 15, 16, 17, 18, 19, 20] (by kernel_rfl)
      have e10 : ysl 14 = .pointer (some ⟨gr, a.toNat, none⟩) := (hy 14).symm.trans d10
      clear hdep hL hy d10
      simp only [List.foldl, List.setIfInBounds_toArray, List.set_cons_succ, List.set_cons_zero, e10] at ha
      subst ha
      clear e10
      have hm := HM.out.but hB (by simp) (by simp) (by simp) (by simp)
      have c := hm.ow.R.cel (a.toNat) (by have h1 := HK.out.Rl; have h2 := HK.out.Cl; have h3 := HK.out.Ml; omega)
      clear hm
      rw [hva] at c
      refine wpOp_step rfl (fun K hK => ?_)
      go_simp
      exact hK _ _ ⟨_, rfl, (fun h => by cases h), (by first | rfl | (exact congrArg (Value.int .i64) (by rw [IntWalk.i64_left, IntWalk.wrap64_in _ (by omega)])) | simp), But.refl _ _, trivial⟩
    · cases ho
      intro fu act u hW hB hsz hL hdep
      replace hB := hB [] (fun j hj hd k hk => by
        by_cases xz : j = 16
        · subst xz; exact (depT_no hd (by kernel_rfl)).elim
        rw [if_neg xz] at hk; cases hk)
      obtain ⟨ysl, ha, hy⟩ := hL.puts [4, 5, 6, 7, 8, 9, 10, 11, 12, 13, 14, 15, 16, 17, 18, 19, 20] (by kernel_rfl)
      clear hdep hL hy
      simp only [List.foldl, List.setIfInBounds_toArray, List.set_cons_succ, List.set_cons_zero] at ha
      subst ha
      refine wpOp_step rfl (fun K hK => ?_)
      go_simp
      exact hK _ _ ⟨_, rfl, (fun h => by cases h), (by first | rfl | (exact congrArg (Value.int .i64) (by rw [IntWalk.i64_left, IntWalk.wrap64_in _ (by omega)])) | simp), But.refl _ _, trivial⟩
    · cases ho
      intro fu act u hW hB hsz hL hdep
      replace hB := hB [] (fun j hj hd k hk => by
        by_cases xz : j = 16
        · subst xz; exact (depT_no hd (by kernel_rfl)).elim
        rw [if_neg xz] at hk; cases hk)
      have d12 := hdep { on := 12, ground := .data } (by simp) rfl _ rfl
      obtain ⟨ysl, ha, hy⟩ := hL.puts [4, 5, 6, 7, 8, 9, 10, 11, 12, 13, 14, 15, 16, 17, 18, 19, 20] (by kernel_rfl)
      have e12 : ysl 16 = .pointer (some ⟨X, 5, none⟩) := (hy 16).symm.trans d12
      clear hdep hL hy d12
      simp only [List.foldl, List.setIfInBounds_toArray, List.set_cons_succ, List.set_cons_zero, e12] at ha
      subst ha
      clear e12
      have c := (HX.out.but hB (by simp)).c5
      refine wpOp_step rfl (fun K hK => ?_)
      go_simp
      exact hK _ _ ⟨_, rfl, (fun h => by cases h), (by first | rfl | (exact congrArg (Value.int .i64) (by rw [IntWalk.i64_left, IntWalk.wrap64_in _ (by omega)])) | simp), But.refl _ _, trivial⟩
    · cases ho
      intro fu act u hW hB hsz hL hdep
      replace hB := hB [] (fun j hj hd k hk => by
        by_cases xz : j = 16
        · subst xz; exact (depT_no hd (by kernel_rfl)).elim
        rw [if_neg xz] at hk; cases hk)
      have d11 := hdep { on := 11, ground := .data } (by simp) rfl _ rfl
      have d13 := hdep { on := 13, ground := .data } (by simp) rfl _ rfl
      obtain ⟨ysl, ha, hy⟩ := hL.puts [4, 5, 6, 7, 8, 9, 10, 11, 12, 13, 14, 15, 16, 17, 18, 19, 20] (by kernel_rfl)
      have e11 : ysl 15 = .int .i64 va := (hy 15).symm.trans d11
      have e13 : ysl 17 = .int .i64 n := (hy 17).symm.trans d13
      clear hdep hL hy d11 d13
      simp only [List.foldl, List.setIfInBounds_toArray, List.set_cons_succ, List.set_cons_zero, e11, e13] at ha
      subst ha
      clear e11 e13
      refine wpOp_step rfl (fun K hK => ?_)
      go_simp
      exact hK _ _ ⟨_, rfl, (fun h => by cases h), (by first | rfl | (exact congrArg (Value.int .i64) (by rw [IntWalk.i64_left, IntWalk.wrap64_in _ (by omega)])) | simp), But.refl _ _, trivial⟩
    · cases ho
      intro fu act u hW hB hsz hL hdep
      replace hB := hB [] (fun j hj hd k hk => by
        by_cases xz : j = 16
        · subst xz; exact (depT_no hd (by kernel_rfl)).elim
        rw [if_neg xz] at hk; cases hk)
      have d14 := hdep { on := 14, ground := .data } (by simp) rfl _ rfl
      obtain ⟨ysl, ha, hy⟩ := hL.puts [4, 5, 6, 7, 8, 9, 10, 11, 12, 13, 14, 15, 16, 17, 18, 19, 20] (by kernel_rfl)
      have e14 : ysl 18 = .int .i64 (va + n) := (hy 18).symm.trans d14
      clear hdep hL hy d14
      simp only [List.foldl, List.setIfInBounds_toArray, List.set_cons_succ, List.set_cons_zero, e14] at ha
      subst ha
      clear e14
      refine wpOp_step rfl (fun K hK => ?_)
      go_simp
      refine (impl_wrapped _ u (by omega) (by omega)).mono ?_
      rintro r u' ⟨rfl, rfl⟩
      go_simp
      exact hK _ _ ⟨_, rfl, (fun h => by cases h), rfl, But.refl _ _, trivial⟩
    · cases ho
      intro fu act u hW hB hsz hL hdep
      replace hB := hB [] (fun j hj hd k hk => by
        rw [if_neg hj] at hk; cases hk)
      have d0 := hdep { on := 0, ground := .data } (by simp) rfl _ rfl
      have d2 := hdep { on := 2, ground := .data } (by simp) rfl _ rfl
      have d15 := hdep { on := 15, ground := .data } (by simp) rfl _ rfl
      obtain ⟨ysl, ha, hy⟩ := hL.puts [4, 5, 6, 7, 8, 9, 10, 11, 12, 13, 14, 15, 16, 17, 18, 19, 20] (by kernel_rfl)
      have e0 : ysl 4 = .pointer (some ⟨m, 0, none⟩) := (hy 4).symm.trans d0
      have e2 : ysl 6 = .int .i64 d := (hy 6).symm.trans d2
      have e15 : ysl 19 = .int .i64 ((va + n) % 65536) := (hy 19).symm.trans d15
      clear hdep hL hy d0 d2 d15
      simp only [List.foldl, List.setIfInBounds_toArray, List.set_cons_succ, List.set_cons_zero, e0, e2, e15] at ha
      subst ha
      clear e0 e2 e15
      refine wpOp_step rfl (fun K hK => ?_)
      go_simp
      refine (impl_put u m gr gc gm cr cc cm s e (nx s) d ((va + n) % 65536) (HM.out.but hB (by simp) (by simp) (by simp) (by simp)) hR.out d0 d7).mono ?_
      rintro r u' ⟨rfl, hM', hB'⟩
      go_simp
      exact hK _ _ ⟨_, rfl, (fun h => by cases h), ⟨rfl, hM'⟩, hB', trivial⟩
    · exact absurd ho (by simp)
  case fin =>
    intro act u hW hsz hB hL hsf
    replace hB := hB [m, gr] (fun j k hk => by
      by_cases yz : j = 16
      · rw [if_pos yz] at hk; exact hk
      rw [if_neg yz] at hk
      cases hk)
    have d16 := hsf 16 _ rfl
    obtain ⟨ysl, ha, hy⟩ := hL.puts [4, 5, 6, 7, 8, 9, 10, 11, 12, 13, 14, 15, 16, 17, 18, 19, 20] (by kernel_rfl)
    clear hL hsf hy
    simp only [List.foldl, List.setIfInBounds_toArray, List.set_cons_succ, List.set_cons_zero] at ha
    subst ha
    obtain ⟨_, hM'⟩ := d16
    go_wp2_with fail
    (first | refine bodyPost_end (results_none rfl _ _ _) rfl ?_ | refine bodyPost_ret (results_none rfl _ _ _) rfl ?_)
    exact ⟨rfl, hM', (((But.of HF.out).trans (hB.up (fun k hk => by simp at hk ⊢; omega))))⟩
set_option maxRecDepth 8000 in
set_option maxHeartbeats 4000000 in
theorem ef_mul (u : World) (m gr gc gm cr cc cm : Nat) (s : St) (e : Ev) (d a b f n : Int) (h : Mx u m gr gc gm cr cc cm s e (nx s)) (hk : OkS s) (hi : iok 9 d a b f n = true) :
    Calls Tryd.prog 101 #[.pointer (some ⟨m, 0, none⟩), .agg #[.int .i64 9, .int .i64 d, .int .i64 a, .int .i64 b, .int .i64 f, .int .i64 n]] u (EfP (effS s e 9 d a b f n) m gr gc gm cr cc cm s e u) := by
  rw [eff_9]
  obtain ⟨⟨d0, d7⟩, ⟨a0, a7⟩, ⟨b0, b7⟩, _⟩ := sok_bd (sok_of hi)
  obtain ⟨n0, n1⟩ := num_bd (iok_num hi)
  obtain ⟨f0, f7⟩ := f_bd (iok_f hi)
  have hlm := h.lt
  have hnx : 0 ≤ nx s ∧ nx s < 65536 := by unfold nx; omega
  have hR := Lib.hid hk.Rl
  have HK := Lib.hid hk
  have qva := ok_get hk.R a.toNat
  have qvb := ok_get hk.R b.toNat
  have F0 := Fr.alloc u (.cells #[.int .i64 9, .int .i64 d, .int .i64 a, .int .i64 b, .int .i64 f, .int .i64 n] 48)
  have HM := Lib.hid (h.fr F0)
  have HX0 := Lib.hid (Box.new u 9 d a b f n 48)
  have HF := Lib.hid F0
  have ho := h.ow
  have lr := ho.R.lt
  have lc := ho.C.lt
  have lm := ho.M.lt
  clear h hk F0 ho
  obtain ⟨va, hva⟩ : ∃ x, s.R.getD a.toNat 0 = x := ⟨_, rfl⟩
  rw [hva] at qva
  obtain ⟨qva0, qva1⟩ := qva
  obtain ⟨vb, hvb⟩ : ∃ x, s.R.getD b.toNat 0 = x := ⟨_, rfl⟩
  rw [hvb] at qvb
  obtain ⟨qvb0, qvb1⟩ := qvb
  simp only [put, goto, rg, mm, hva, hvb]
  go_enter Tryd.func101, Tryd.ntmps101
  go_wp2_with fail
  generalize (u.alloc (.cells #[.int .i64 9, .int .i64 d, .int .i64 a, .int .i64 b, .int .i64 f, .int .i64 n] 48)) = u0 at *
  have hz := HF.out.size
  have hXl := HX0.out.lt
  have HX := Lib.hid HX0.out
  clear HX0
  generalize hXe : u.heap.size = X at *
  refine wp_region_lots2 27 (fun i => if i = 22 then [m, gr] else []) (fun _ _ => True) (fun i v u => match i with | 0 => v = .pointer (some ⟨m, 0, none⟩) | 1 => v = .pointer (some ⟨X, 1, none⟩) | 2 => v = .int .i64 d | 3 => v = .pointer (some ⟨m, 0, none⟩) | 4 => v = .pointer (some ⟨m, 0, none⟩) | 5 => v = .pointer (some ⟨m, 0, none⟩) | 6 => v = .pointer (some ⟨m, 1, none⟩) | 7 => v = .slice (some ⟨gr, 0, none⟩) 8 cr | 8 => v = .pointer (some ⟨X, 2, none⟩) | 9 => v = .int .i64 a | 10 => v = .pointer (some ⟨gr, a.toNat, none⟩) | 11 => v = .int .i64 va | 12 => v = .pointer (some ⟨m, 0, none⟩) | 13 => v = .pointer (some ⟨m, 0, none⟩) | 14 => v = .pointer (some ⟨m, 0, none⟩) | 15 => v = .pointer (some ⟨m, 1, none⟩) | 16 => v = .slice (some ⟨gr, 0, none⟩) 8 cr | 17 => v = .pointer (some ⟨X, 3, none⟩) | 18 => v = .int .i64 b | 19 => v = .pointer (some ⟨gr, b.toNat, none⟩) | 20 => v = .int .i64 vb | 21 => v = .int .i64 (mulD va vb) | 22 => (v = .tuple #[] ∧ Mx u m gr gc gm cr cc cm ⟨s.pc, putR s.R d (mulD va vb), s.C, s.M⟩ (putE e d (mulD va vb)) (nx s)) | _ => True) ?mono (by kernel_rfl) (by kernel_rfl) rfl (by kernel_rfl) trivial ?step ?fin
  case mono =>
    intro i j v u u' hij hsz h hB
    rcases j with _ | _ | _ | _ | _ | _ | _ | _ | _ | _ | _ | _ | _ | _ | _ | _ | _ | _ | _ | _ | _ | _ | _ | j
    · exact h
    · exact h
    · exact h
    · exact h
    · exact h
    · exact h
    · exact h
    · exact h
    · exact h
    · exact h
    · exact h
    · exact h
    · exact h
    · exact h
    · exact h
    · exact h
    · exact h
    · exact h
    · exact h
    · exact h
    · exact h
    · exact h
    · exact (by have hB2 : But [] u u' := (by have hx := hB; simp only [if_neg hij] at hx; exact hx); exact ⟨h.1, h.2.but hB2 (by simp) (by simp) (by simp) (by simp)⟩)
    · trivial
  case step =>
    intro i o ho
    rcases i with _ | _ | _ | _ | _ | _ | _ | _ | _ | _ | _ | _ | _ | _ | _ | _ | _ | _ | _ | _ | _ | _ | _ | i
    · cases ho
      intro fu act u hW hB hsz hL hdep
      replace hB := hB [] (fun j hj hd k hk => by
        by_cases xz : j = 22
        · subst xz; exact (depT_no hd (by kernel_rfl)).elim
        rw [if_neg xz] at hk; cases hk)
      obtain ⟨ysl, ha, hy⟩ := hL.puts [4, 5, 6, 7, 8, 9, 10, 11, 12, 13, 14, 15, 16, 17, 18, 19, 20, 21, 22, 23, 24, 25, 26] (by kernel_rfl)
      clear hdep hL hy
      simp only [List.foldl, List.setIfInBounds_toArray, List.set_cons_succ, List.set_cons_zero] at ha
      subst ha
      refine wpOp_step rfl (fun K hK => ?_)
      go_simp
      exact hK _ _ ⟨_, rfl, (fun h => by cases h), (by first | rfl | (exact congrArg (Value.int .i64) (by rw [IntWalk.i64_left, IntWalk.wrap64_in _ (by omega)])) | simp), But.refl _ _, trivial⟩
    · cases ho
      intro fu act u hW hB hsz hL hdep
      replace hB := hB [] (fun j hj hd k hk => by
        by_cases xz : j = 22
        · subst xz; exact (depT_no hd (by kernel_rfl)).elim
        rw [if_neg xz] at hk; cases hk)
      obtain ⟨ysl, ha, hy⟩ := hL.puts [4, 5, 6, 7, 8, 9, 10, 11, 12, 13, 14, 15, 16, 17, 18, 19, 20, 21, 22, 23, 24, 25, 26] (by kernel_rfl)
      clear hdep hL hy
      simp only [List.foldl, List.setIfInBounds_toArray, List.set_cons_succ, List.set_cons_zero] at ha
      subst ha
      refine wpOp_step rfl (fun K hK => ?_)
      go_simp
      exact hK _ _ ⟨_, rfl, (fun h => by cases h), (by first | rfl | (exact congrArg (Value.int .i64) (by rw [IntWalk.i64_left, IntWalk.wrap64_in _ (by omega)])) | simp), But.refl _ _, trivial⟩
    · cases ho
      intro fu act u hW hB hsz hL hdep
      replace hB := hB [] (fun j hj hd k hk => by
        by_cases xz : j = 22
        · subst xz; exact (depT_no hd (by kernel_rfl)).elim
        rw [if_neg xz] at hk; cases hk)
      have d1 := hdep { on := 1, ground := .data } (by simp) rfl _ rfl
      obtain ⟨ysl, ha, hy⟩ := hL.puts [4, 5, 6, 7, 8, 9, 10, 11, 12, 13, 14, 15, 16, 17, 18, 19, 20, 21, 22, 23, 24, 25, 26] (by kernel_rfl)
      have e1 : ysl 5 = .pointer (some ⟨X, 1, none⟩) := (hy 5).symm.trans d1
      clear hdep hL hy d1
      simp only [List.foldl, List.setIfInBounds_toArray, List.set_cons_succ, List.set_cons_zero, e1] at ha
      subst ha
      clear e1
      have c := (HX.out.but hB (by simp)).c1
      refine wpOp_step rfl (fun K hK => ?_)
      go_simp
      exact hK _ _ ⟨_, rfl, (fun h => by cases h), (by first | rfl | (exact congrArg (Value.int .i64) (by rw [IntWalk.i64_left, IntWalk.wrap64_in _ (by omega)])) | simp), But.refl _ _, trivial⟩
    · cases ho
      intro fu act u hW hB hsz hL hdep
      replace hB := hB [] (fun j hj hd k hk => by
        by_cases xz : j = 22
        · subst xz; exact (depT_no hd (by kernel_rfl)).elim
        rw [if_neg xz] at hk; cases hk)
      obtain ⟨ysl, ha, hy⟩ := hL.puts [4, 5, 6, 7, 8, 9, 10, 11, 12, 13, 14, 15, 16, 17, 18, 19, 20, 21, 22, 23, 24, 25, 26] (by kernel_rfl)
      clear hdep hL hy
      simp only [List.foldl, List.setIfInBounds_toArray, List.set_cons_succ, List.set_cons_zero] at ha
      subst ha
      refine wpOp_step rfl (fun K hK => ?_)
      go_simp
      exact hK _ _ ⟨_, rfl, (fun h => by cases h), (by first | rfl | (exact congrArg (Value.int .i64) (by rw [IntWalk.i64_left, IntWalk.wrap64_in _ (by omega)])) | simp), But.refl _ _, trivial⟩
    · cases ho
      intro fu act u hW hB hsz hL hdep
      replace hB := hB [] (fun j hj hd k hk => by
        by_cases xz : j = 22
        · subst xz; exact (depT_no hd (by kernel_rfl)).elim
        rw [if_neg xz] at hk; cases hk)
      have d3 := hdep { on := 3, ground := .data } (by simp) rfl _ rfl
      obtain ⟨ysl, ha, hy⟩ := hL.puts [4, 5, 6, 7, 8, 9, 10, 11, 12, 13, 14, 15, 16, 17, 18, 19, 20, 21, 22, 23, 24, 25, 26] (by kernel_rfl)
      have e3 : ysl 7 = .pointer (some ⟨m, 0, none⟩) := (hy 7).symm.trans d3
      clear hdep hL hy d3
      simp only [List.foldl, List.setIfInBounds_toArray, List.set_cons_succ, List.set_cons_zero, e3] at ha
      subst ha
      clear e3
      refine wpOp_step rfl (fun K hK => ?_)
      go_simp
      exact hK _ _ ⟨_, rfl, (fun h => by cases h), (by first | rfl | (exact congrArg (Value.int .i64) (by rw [IntWalk.i64_left, IntWalk.wrap64_in _ (by omega)])) | simp), But.refl _ _, trivial⟩
    · cases ho
      intro fu act u hW hB hsz hL hdep
      replace hB := hB [] (fun j hj hd k hk => by
        by_cases xz : j = 22
        · subst xz; exact (depT_no hd (by kernel_rfl)).elim
        rw [if_neg xz] at hk; cases hk)
      have d4 := hdep { on := 4, ground := .data } (by simp) rfl _ rfl
      obtain ⟨ysl, ha, hy⟩ := hL.puts [4, 5, 6, 7, 8, 9, 10, 11, 12, 13, 14, 15, 16, 17, 18, 19, 20, 21, 22, 23, 24, 25, 26] (by kernel_rfl)
      have e4 : ysl 8 = .pointer (some ⟨m, 0, none⟩) := (hy 8).symm.trans d4
      clear hdep hL hy d4
      simp only [List.foldl, List.setIfInBounds_toArray, List.set_cons_succ, List.set_cons_zero, e4] at ha
      subst ha
      clear e4
      refine wpOp_step rfl (fun K hK => ?_)
      go_simp
      exact hK _ _ ⟨_, rfl, (fun h => by cases h), (by first | rfl | (exact congrArg (Value.int .i64) (by rw [IntWalk.i64_left, IntWalk.wrap64_in _ (by omega)])) | simp), But.refl _ _, trivial⟩
    · cases ho
      intro fu act u hW hB hsz hL hdep
      replace hB := hB [] (fun j hj hd k hk => by
        by_cases xz : j = 22
        · subst xz; exact (depT_no hd (by kernel_rfl)).elim
        rw [if_neg xz] at hk; cases hk)
      have d5 := hdep { on := 5, ground := .data } (by simp) rfl _ rfl
      obtain ⟨ysl, ha, hy⟩ := hL.puts [4, 5, 6, 7, 8, 9, 10, 11, 12, 13, 14, 15, 16, 17, 18, 19, 20, 21, 22, 23, 24, 25, 26] (by kernel_rfl)
      have e5 : ysl 9 = .pointer (some ⟨m, 0, none⟩) := (hy 9).symm.trans d5
      clear hdep hL hy d5
      simp only [List.foldl, List.setIfInBounds_toArray, List.set_cons_succ, List.set_cons_zero, e5] at ha
      subst ha
      clear e5
      refine wpOp_step rfl (fun K hK => ?_)
      go_simp
      exact hK _ _ ⟨_, rfl, (fun h => by cases h), (by first | rfl | (exact congrArg (Value.int .i64) (by rw [IntWalk.i64_left, IntWalk.wrap64_in _ (by omega)])) | simp), But.refl _ _, trivial⟩
    · cases ho
      intro fu act u hW hB hsz hL hdep
      replace hB := hB [] (fun j hj hd k hk => by
        by_cases xz : j = 22
        · subst xz; exact (depT_no hd (by kernel_rfl)).elim
        rw [if_neg xz] at hk; cases hk)
      have d6 := hdep { on := 6, ground := .data } (by simp) rfl _ rfl
      obtain ⟨ysl, ha, hy⟩ := hL.puts [4, 5, 6, 7, 8, 9, 10, 11, 12, 13, 14, 15, 16, 17, 18, 19, 20, 21, 22, 23, 24, 25, 26] (by kernel_rfl)
      have e6 : ysl 10 = .pointer (some ⟨m, 1, none⟩) := (hy 10).symm.trans d6
      clear hdep hL hy d6
      simp only [List.foldl, List.setIfInBounds_toArray, List.set_cons_succ, List.set_cons_zero, e6] at ha
      subst ha
      clear e6
      have hm := HM.out.but hB (by simp) (by simp) (by simp) (by simp)
      have c := hm.cel 1 (by decide)
      simp only [mCells, List.getElem?_cons_succ, List.getElem?_cons_zero] at c
      clear hm
      refine wpOp_step rfl (fun K hK => ?_)
      go_simp
      exact hK _ _ ⟨_, rfl, (fun h => by cases h), (by first | rfl | (exact congrArg (Value.int .i64) (by rw [IntWalk.i64_left, IntWalk.wrap64_in _ (by omega)])) | simp), But.refl _ _, trivial⟩
    · cases ho
      intro fu act u hW hB hsz hL hdep
      replace hB := hB [] (fun j hj hd k hk => by
        by_cases xz : j = 22
        · subst xz; exact (depT_no hd (by kernel_rfl)).elim
        rw [if_neg xz] at hk; cases hk)
      obtain ⟨ysl, ha, hy⟩ := hL.puts [4, 5, 6, 7, 8, 9, 10, 11, 12, 13, 14, 15, 16, 17, 18, 19, 20, 21, 22, 23, 24, 25, 26] (by kernel_rfl)
      clear hdep hL hy
      simp only [List.foldl, List.setIfInBounds_toArray, List.set_cons_succ, List.set_cons_zero] at ha
      subst ha
      refine wpOp_step rfl (fun K hK => ?_)
      go_simp
      exact hK _ _ ⟨_, rfl, (fun h => by cases h), (by first | rfl | (exact congrArg (Value.int .i64) (by rw [IntWalk.i64_left, IntWalk.wrap64_in _ (by omega)])) | simp), But.refl _ _, trivial⟩
    · cases ho
      intro fu act u hW hB hsz hL hdep
      replace hB := hB [] (fun j hj hd k hk => by
        by_cases xz : j = 22
        · subst xz; exact (depT_no hd (by kernel_rfl)).elim
        rw [if_neg xz] at hk; cases hk)
      have d8 := hdep { on := 8, ground := .data } (by simp) rfl _ rfl
      obtain ⟨ysl, ha, hy⟩ := hL.puts [4, 5, 6, 7, 8, 9, 10, 11, 12, 13, 14, 15, 16, 17, 18, 19, 20, 21, 22, 23, 24, 25, 26] (by kernel_rfl)
      have e8 : ysl 12 = .pointer (some ⟨X, 2, none⟩) := (hy 12).symm.trans d8
      clear hdep hL hy d8
      simp only [List.foldl, List.setIfInBounds_toArray, List.set_cons_succ, List.set_cons_zero, e8] at ha
      subst ha
      clear e8
      have c := (HX.out.but hB (by simp)).c2
      refine wpOp_step rfl (fun K hK => ?_)
      go_simp
      exact hK _ _ ⟨_, rfl, (fun h => by cases h), (by first | rfl | (exact congrArg (Value.int .i64) (by rw [IntWalk.i64_left, IntWalk.wrap64_in _ (by omega)])) | simp), But.refl _ _, trivial⟩
    · cases ho
      intro fu act u hW hB hsz hL hdep
      replace hB := hB [] (fun j hj hd k hk => by
        by_cases xz : j = 22
        · subst xz; exact (depT_no hd (by kernel_rfl)).elim
        rw [if_neg xz] at hk; cases hk)
      have d7 := hdep { on := 7, ground := .data } (by simp) rfl _ rfl
      have d9 := hdep { on := 9, ground := .data } (by simp) rfl _ rfl
      obtain ⟨ysl, ha, hy⟩ := hL.puts [4, 5, 6, 7, 8, 9, 10, 11, 12, 13, 14, 15, 16, 17, 18, 19, 20, 21, 22, 23, 24, 25, 26] (by kernel_rfl)
      have e7 : ysl 11 = .slice (some ⟨gr, 0, none⟩) 8 cr := (hy 11).symm.trans d7
      have e9 : ysl 13 = .int .i64 a := (hy 13).symm.trans d9
      clear hdep hL hy d7 d9
      simp only [List.foldl, List.setIfInBounds_toArray, List.set_cons_succ, List.set_cons_zero, e7, e9] at ha
      subst ha
      clear e7 e9
      have ix0 : 0 ≤ a := by omega
      have ix1 : a < 8 := by omega
      refine wpOp_step rfl (fun K hK => ?_)
      go_simp
      exact hK _ _ ⟨_, rfl, (fun h => by cases h), (by first | rfl | (exact congrArg (Value.int .i64) (by rw [IntWalk.i64_left, IntWalk.wrap64_in _ (by omega)])) | simp), But.refl _ _, trivial⟩
    · cases ho
      intro fu act u hW hB hsz hL hdep
      replace hB := hB [] (fun j hj hd k hk => by
        by_cases xz : j = 22
        · subst xz; exact (depT_no hd (by kernel_rfl)).elim
        rw [if_neg xz] at hk; cases hk)
      have d10 := hdep { on := 10, ground := .data } (by simp) rfl _ rfl
      obtain ⟨ysl, ha, hy⟩ := hL.puts [4, 5, 6, 7, 8, 9, 10, 11, 12, 13, 14, 15, 16, 17, 18, 19, 20, 21, 22, 23, 24, 25, 26] (by kernel_rfl)
      have e10 : ysl 14 = .pointer (some ⟨gr, a.toNat, none⟩) := (hy 14).symm.trans d10
      clear hdep hL hy d10
      simp only [List.foldl, List.setIfInBounds_toArray, List.set_cons_succ, List.set_cons_zero, e10] at ha
      subst ha
      clear e10
      have hm := HM.out.but hB (by simp) (by simp) (by simp) (by simp)
      have c := hm.ow.R.cel (a.toNat) (by have h1 := HK.out.Rl; have h2 := HK.out.Cl; have h3 := HK.out.Ml; omega)
      clear hm
      rw [hva] at c
      refine wpOp_step rfl (fun K hK => ?_)
      go_simp
      exact hK _ _ ⟨_, rfl, (fun h => by cases h), (by first | rfl | (exact congrArg (Value.int .i64) (by rw [IntWalk.i64_left, IntWalk.wrap64_in _ (by omega)])) | simp), But.refl _ _, trivial⟩
    · cases ho
      intro fu act u hW hB hsz hL hdep
      replace hB := hB [] (fun j hj hd k hk => by
        by_cases xz : j = 22
        · subst xz; exact (depT_no hd (by kernel_rfl)).elim
        rw [if_neg xz] at hk; cases hk)
      obtain ⟨ysl, ha, hy⟩ := hL.puts [4, 5, 6, 7, 8, 9, 10, 11, 12, 13, 14, 15, 16, 17, 18, 19, 20, 21, 22, 23, 24, 25, 26] (by kernel_rfl)
      clear hdep hL hy
      simp only [List.foldl, List.setIfInBounds_toArray, List.set_cons_succ, List.set_cons_zero] at ha
      subst ha
      refine wpOp_step rfl (fun K hK => ?_)
      go_simp
      exact hK _ _ ⟨_, rfl, (fun h => by cases h), (by first | rfl | (exact congrArg (Value.int .i64) (by rw [IntWalk.i64_left, IntWalk.wrap64_in _ (by omega)])) | simp), But.refl _ _, trivial⟩
    · cases ho
      intro fu act u hW hB hsz hL hdep
      replace hB := hB [] (fun j hj hd k hk => by
        by_cases xz : j = 22
        · subst xz; exact (depT_no hd (by kernel_rfl)).elim
        rw [if_neg xz] at hk; cases hk)
      have d12 := hdep { on := 12, ground := .data } (by simp) rfl _ rfl
      obtain ⟨ysl, ha, hy⟩ := hL.puts [4, 5, 6, 7, 8, 9, 10, 11, 12, 13, 14, 15, 16, 17, 18, 19, 20, 21, 22, 23, 24, 25, 26] (by kernel_rfl)
      have e12 : ysl 16 = .pointer (some ⟨m, 0, none⟩) := (hy 16).symm.trans d12
      clear hdep hL hy d12
      simp only [List.foldl, List.setIfInBounds_toArray, List.set_cons_succ, List.set_cons_zero, e12] at ha
      subst ha
      clear e12
      refine wpOp_step rfl (fun K hK => ?_)
      go_simp
      exact hK _ _ ⟨_, rfl, (fun h => by cases h), (by first | rfl | (exact congrArg (Value.int .i64) (by rw [IntWalk.i64_left, IntWalk.wrap64_in _ (by omega)])) | simp), But.refl _ _, trivial⟩
    · cases ho
      intro fu act u hW hB hsz hL hdep
      replace hB := hB [] (fun j hj hd k hk => by
        by_cases xz : j = 22
        · subst xz; exact (depT_no hd (by kernel_rfl)).elim
        rw [if_neg xz] at hk; cases hk)
      have d13 := hdep { on := 13, ground := .data } (by simp) rfl _ rfl
      obtain ⟨ysl, ha, hy⟩ := hL.puts [4, 5, 6, 7, 8, 9, 10, 11, 12, 13, 14, 15, 16, 17, 18, 19, 20, 21, 22, 23, 24, 25, 26] (by kernel_rfl)
      have e13 : ysl 17 = .pointer (some ⟨m, 0, none⟩) := (hy 17).symm.trans d13
      clear hdep hL hy d13
      simp only [List.foldl, List.setIfInBounds_toArray, List.set_cons_succ, List.set_cons_zero, e13] at ha
      subst ha
      clear e13
      refine wpOp_step rfl (fun K hK => ?_)
      go_simp
      exact hK _ _ ⟨_, rfl, (fun h => by cases h), (by first | rfl | (exact congrArg (Value.int .i64) (by rw [IntWalk.i64_left, IntWalk.wrap64_in _ (by omega)])) | simp), But.refl _ _, trivial⟩
    · cases ho
      intro fu act u hW hB hsz hL hdep
      replace hB := hB [] (fun j hj hd k hk => by
        by_cases xz : j = 22
        · subst xz; exact (depT_no hd (by kernel_rfl)).elim
        rw [if_neg xz] at hk; cases hk)
      have d14 := hdep { on := 14, ground := .data } (by simp) rfl _ rfl
      obtain ⟨ysl, ha, hy⟩ := hL.puts [4, 5, 6, 7, 8, 9, 10, 11, 12, 13, 14, 15, 16, 17, 18, 19, 20, 21, 22, 23, 24, 25, 26] (by kernel_rfl)
      have e14 : ysl 18 = .pointer (some ⟨m, 0, none⟩) := (hy 18).symm.trans d14
      clear hdep hL hy d14
      simp only [List.foldl, List.setIfInBounds_toArray, List.set_cons_succ, List.set_cons_zero, e14] at ha
      subst ha
      clear e14
      refine wpOp_step rfl (fun K hK => ?_)
      go_simp
      exact hK _ _ ⟨_, rfl, (fun h => by cases h), (by first | rfl | (exact congrArg (Value.int .i64) (by rw [IntWalk.i64_left, IntWalk.wrap64_in _ (by omega)])) | simp), But.refl _ _, trivial⟩
    · cases ho
      intro fu act u hW hB hsz hL hdep
      replace hB := hB [] (fun j hj hd k hk => by
        by_cases xz : j = 22
        · subst xz; exact (depT_no hd (by kernel_rfl)).elim
        rw [if_neg xz] at hk; cases hk)
      have d15 := hdep { on := 15, ground := .data } (by simp) rfl _ rfl
      obtain ⟨ysl, ha, hy⟩ := hL.puts [4, 5, 6, 7, 8, 9, 10, 11, 12, 13, 14, 15, 16, 17, 18, 19, 20, 21, 22, 23, 24, 25, 26] (by kernel_rfl)
      have e15 : ysl 19 = .pointer (some ⟨m, 1, none⟩) := (hy 19).symm.trans d15
      clear hdep hL hy d15
      simp only [List.foldl, List.setIfInBounds_toArray, List.set_cons_succ, List.set_cons_zero, e15] at ha
      subst ha
      clear e15
      have hm := HM.out.but hB (by simp) (by simp) (by simp) (by simp)
      have c := hm.cel 1 (by decide)
      simp only [mCells, List.getElem?_cons_succ, List.getElem?_cons_zero] at c
      clear hm
      refine wpOp_step rfl (fun K hK => ?_)
      go_simp
      exact hK _ _ ⟨_, rfl, (fun h => by cases h), (by first | rfl | (exact congrArg (Value.int .i64) (by rw [IntWalk.i64_left, IntWalk.wrap64_in _ (by omega)])) | simp), But.refl _ _, trivial⟩
    · cases ho
      intro fu act u hW hB hsz hL hdep
      replace hB := hB [] (fun j hj hd k hk => by
        by_cases xz : j = 22
        · subst xz; exact (depT_no hd (by kernel_rfl)).elim
        rw [if_neg xz] at hk; cases hk)
      obtain ⟨ysl, ha, hy⟩ := hL.puts [4, 5, 6, 7, 8, 9, 10, 11, 12, 13, 14, 15, 16, 17, 18, 19, 20, 21, 22, 23, 24, 25, 26] (by kernel_rfl)
      clear hdep hL hy
      simp only [List.foldl, List.setIfInBounds_toArray, List.set_cons_succ, List.set_cons_zero] at ha
      subst ha
      refine wpOp_step rfl (fun K hK => ?_)
      go_simp
      exact hK _ _ ⟨_, rfl, (fun h => by cases h), (by first | rfl | (exact congrArg (Value.int .i64) (by rw [IntWalk.i64_left, IntWalk.wrap64_in _ (by omega)])) | simp), But.refl _ _, trivial⟩
    · cases ho
      intro fu act u hW hB hsz hL hdep
      replace hB := hB [] (fun j hj hd k hk => by
        by_cases xz : j = 22
        · subst xz; exact (depT_no hd (by kernel_rfl)).elim
        rw [if_neg xz] at hk; cases hk)
      have d17 := hdep { on := 17, ground := .data } (by simp) rfl _ rfl
      obtain ⟨ysl, ha, hy⟩ := hL.puts [4, 5, 6, 7, 8, 9, 10, 11, 12, 13, 14, 15, 16, 17, 18, 19, 20, 21, 22, 23, 24, 25, 26] (by kernel_rfl)
      have e17 : ysl 21 = .pointer (some ⟨X, 3, none⟩) := (hy 21).symm.trans d17
      clear hdep hL hy d17
      simp only [List.foldl, List.setIfInBounds_toArray, List.set_cons_succ, List.set_cons_zero, e17] at ha
      subst ha
      clear e17
      have c := (HX.out.but hB (by simp)).c3
      refine wpOp_step rfl (fun K hK => ?_)
      go_simp
      exact hK _ _ ⟨_, rfl, (fun h => by cases h), (by first | rfl | (exact congrArg (Value.int .i64) (by rw [IntWalk.i64_left, IntWalk.wrap64_in _ (by omega)])) | simp), But.refl _ _, trivial⟩
    · cases ho
      intro fu act u hW hB hsz hL hdep
      replace hB := hB [] (fun j hj hd k hk => by
        by_cases xz : j = 22
        · subst xz; exact (depT_no hd (by kernel_rfl)).elim
        rw [if_neg xz] at hk; cases hk)
      have d16 := hdep { on := 16, ground := .data } (by simp) rfl _ rfl
      have d18 := hdep { on := 18, ground := .data } (by simp) rfl _ rfl
      obtain ⟨ysl, ha, hy⟩ := hL.puts [4, 5, 6, 7, 8, 9, 10, 11, 12, 13, 14, 15, 16, 17, 18, 19, 20, 21, 22, 23, 24, 25, 26] (by kernel_rfl)
      have e16 : ysl 20 = .slice (some ⟨gr, 0, none⟩) 8 cr := (hy 20).symm.trans d16
      have e18 : ysl 22 = .int .i64 b := (hy 22).symm.trans d18
      clear hdep hL hy d16 d18
      simp only [List.foldl, List.setIfInBounds_toArray, List.set_cons_succ, List.set_cons_zero, e16, e18] at ha
      subst ha
      clear e16 e18
      have ix0 : 0 ≤ b := by omega
      have ix1 : b < 8 := by omega
      refine wpOp_step rfl (fun K hK => ?_)
      go_simp
      exact hK _ _ ⟨_, rfl, (fun h => by cases h), (by first | rfl | (exact congrArg (Value.int .i64) (by rw [IntWalk.i64_left, IntWalk.wrap64_in _ (by omega)])) | simp), But.refl _ _, trivial⟩
    · cases ho
      intro fu act u hW hB hsz hL hdep
      replace hB := hB [] (fun j hj hd k hk => by
        by_cases xz : j = 22
        · subst xz; exact (depT_no hd (by kernel_rfl)).elim
        rw [if_neg xz] at hk; cases hk)
      have d19 := hdep { on := 19, ground := .data } (by simp) rfl _ rfl
      obtain ⟨ysl, ha, hy⟩ := hL.puts [4, 5, 6, 7, 8, 9, 10, 11, 12, 13, 14, 15, 16, 17, 18, 19, 20, 21, 22, 23, 24, 25, 26] (by kernel_rfl)
      have e19 : ysl 23 = .pointer (some ⟨gr, b.toNat, none⟩) := (hy 23).symm.trans d19
      clear hdep hL hy d19
      simp only [List.foldl, List.setIfInBounds_toArray, List.set_cons_succ, List.set_cons_zero, e19] at ha
      subst ha
      clear e19
      have hm := HM.out.but hB (by simp) (by simp) (by simp) (by simp)
      have c := hm.ow.R.cel (b.toNat) (by have h1 := HK.out.Rl; have h2 := HK.out.Cl; have h3 := HK.out.Ml; omega)
      clear hm
      rw [hvb] at c
      refine wpOp_step rfl (fun K hK => ?_)
      go_simp
      exact hK _ _ ⟨_, rfl, (fun h => by cases h), (by first | rfl | (exact congrArg (Value.int .i64) (by rw [IntWalk.i64_left, IntWalk.wrap64_in _ (by omega)])) | simp), But.refl _ _, trivial⟩
    · cases ho
      intro fu act u hW hB hsz hL hdep
      replace hB := hB [] (fun j hj hd k hk => by
        by_cases xz : j = 22
        · subst xz; exact (depT_no hd (by kernel_rfl)).elim
        rw [if_neg xz] at hk; cases hk)
      have d11 := hdep { on := 11, ground := .data } (by simp) rfl _ rfl
      have d20 := hdep { on := 20, ground := .data } (by simp) rfl _ rfl
      obtain ⟨ysl, ha, hy⟩ := hL.puts [4, 5, 6, 7, 8, 9, 10, 11, 12, 13, 14, 15, 16, 17, 18, 19, 20, 21, 22, 23, 24, 25, 26] (by kernel_rfl)
      have e11 : ysl 15 = .int .i64 va := (hy 15).symm.trans d11
      have e20 : ysl 24 = .int .i64 vb := (hy 24).symm.trans d20
      clear hdep hL hy d11 d20
      simp only [List.foldl, List.setIfInBounds_toArray, List.set_cons_succ, List.set_cons_zero, e11, e20] at ha
      subst ha
      clear e11 e20
      refine wpOp_step rfl (fun K hK => ?_)
      go_simp
      refine (impl_MulDo _ _ u).mono ?_
      rintro r u' ⟨rfl, rfl⟩
      go_simp
      exact hK _ _ ⟨_, rfl, (fun h => by cases h), rfl, But.refl _ _, trivial⟩
    · cases ho
      intro fu act u hW hB hsz hL hdep
      replace hB := hB [] (fun j hj hd k hk => by
        rw [if_neg hj] at hk; cases hk)
      have d0 := hdep { on := 0, ground := .data } (by simp) rfl _ rfl
      have d2 := hdep { on := 2, ground := .data } (by simp) rfl _ rfl
      have d21 := hdep { on := 21, ground := .data } (by simp) rfl _ rfl
      obtain ⟨ysl, ha, hy⟩ := hL.puts [4, 5, 6, 7, 8, 9, 10, 11, 12, 13, 14, 15, 16, 17, 18, 19, 20, 21, 22, 23, 24, 25, 26] (by kernel_rfl)
      have e0 : ysl 4 = .pointer (some ⟨m, 0, none⟩) := (hy 4).symm.trans d0
      have e2 : ysl 6 = .int .i64 d := (hy 6).symm.trans d2
      have e21 : ysl 25 = .int .i64 (mulD va vb) := (hy 25).symm.trans d21
      clear hdep hL hy d0 d2 d21
      simp only [List.foldl, List.setIfInBounds_toArray, List.set_cons_succ, List.set_cons_zero, e0, e2, e21] at ha
      subst ha
      clear e0 e2 e21
      refine wpOp_step rfl (fun K hK => ?_)
      go_simp
      refine (impl_put u m gr gc gm cr cc cm s e (nx s) d (mulD va vb) (HM.out.but hB (by simp) (by simp) (by simp) (by simp)) hR.out d0 d7).mono ?_
      rintro r u' ⟨rfl, hM', hB'⟩
      go_simp
      exact hK _ _ ⟨_, rfl, (fun h => by cases h), ⟨rfl, hM'⟩, hB', trivial⟩
    · exact absurd ho (by simp)
  case fin =>
    intro act u hW hsz hB hL hsf
    replace hB := hB [m, gr] (fun j k hk => by
      by_cases yz : j = 22
      · rw [if_pos yz] at hk; exact hk
      rw [if_neg yz] at hk
      cases hk)
    have d22 := hsf 22 _ rfl
    obtain ⟨ysl, ha, hy⟩ := hL.puts [4, 5, 6, 7, 8, 9, 10, 11, 12, 13, 14, 15, 16, 17, 18, 19, 20, 21, 22, 23, 24, 25, 26] (by kernel_rfl)
    clear hL hsf hy
    simp only [List.foldl, List.setIfInBounds_toArray, List.set_cons_succ, List.set_cons_zero] at ha
    subst ha
    obtain ⟨_, hM'⟩ := d22
    go_wp2_with fail
    (first | refine bodyPost_end (results_none rfl _ _ _) rfl ?_ | refine bodyPost_ret (results_none rfl _ _ _) rfl ?_)
    exact ⟨rfl, hM', (((But.of HF.out).trans (hB.up (fun k hk => by simp at hk ⊢; omega))))⟩
set_option maxRecDepth 8000 in
set_option maxHeartbeats 4000000 in
theorem ef_lui (u : World) (m gr gc gm cr cc cm : Nat) (s : St) (e : Ev) (d a b f n : Int) (h : Mx u m gr gc gm cr cc cm s e (nx s)) (hk : OkS s) (hi : iok 2 d a b f n = true) :
    Calls Tryd.prog 94 #[.pointer (some ⟨m, 0, none⟩), .agg #[.int .i64 2, .int .i64 d, .int .i64 a, .int .i64 b, .int .i64 f, .int .i64 n]] u (EfP (effS s e 2 d a b f n) m gr gc gm cr cc cm s e u) := by
  rw [eff_2]
  obtain ⟨⟨d0, d7⟩, ⟨a0, a7⟩, ⟨b0, b7⟩, _⟩ := sok_bd (sok_of hi)
  obtain ⟨n0, n1⟩ := num_bd (iok_num hi)
  obtain ⟨f0, f7⟩ := f_bd (iok_f hi)
  have hlm := h.lt
  have hnx : 0 ≤ nx s ∧ nx s < 65536 := by unfold nx; omega
  have hR := Lib.hid hk.Rl
  have HK := Lib.hid hk
  have F0 := Fr.alloc u (.cells #[.int .i64 2, .int .i64 d, .int .i64 a, .int .i64 b, .int .i64 f, .int .i64 n] 48)
  have HM := Lib.hid (h.fr F0)
  have HX0 := Lib.hid (Box.new u 2 d a b f n 48)
  have HF := Lib.hid F0
  have ho := h.ow
  have lr := ho.R.lt
  have lc := ho.C.lt
  have lm := ho.M.lt
  clear h hk F0 ho
  go_enter Tryd.func94, Tryd.ntmps94
  go_wp2_with fail
  generalize (u.alloc (.cells #[.int .i64 2, .int .i64 d, .int .i64 a, .int .i64 b, .int .i64 f, .int .i64 n] 48)) = u0 at *
  have hz := HF.out.size
  have hXl := HX0.out.lt
  have HX := Lib.hid HX0.out
  clear HX0
  generalize hXe : u.heap.size = X at *
  simp only [put]
  obtain ⟨x0, x1, x2, x3, x4, x5⟩ := HX.out
  go_wp2_with fail
  refine (impl_put u0 m gr gc gm cr cc cm s e (nx s) d (n * 128) HM.out hR.out d0 d7).mono ?_
  rintro r u' ⟨rfl, hM', hB'⟩
  go_wp2_with fail
  (first | refine bodyPost_end (results_none rfl _ _ _) rfl ?_ | refine bodyPost_ret (results_none rfl _ _ _) rfl ?_)
  exact ⟨rfl, hM', ((But.of HF.out).trans (hB'.up (fun k hk => by simp at hk ⊢; omega)))⟩
set_option maxRecDepth 8000 in
set_option maxHeartbeats 4000000 in
theorem ef_wait (u : World) (m gr gc gm cr cc cm : Nat) (s : St) (e : Ev) (d a b f n : Int) (h : Mx u m gr gc gm cr cc cm s e (nx s)) (hk : OkS s) (hi : iok 11 d a b f n = true) :
    Calls Tryd.prog 103 #[.pointer (some ⟨m, 0, none⟩), .agg #[.int .i64 11, .int .i64 d, .int .i64 a, .int .i64 b, .int .i64 f, .int .i64 n]] u (EfP (effS s e 11 d a b f n) m gr gc gm cr cc cm s e u) := by
  rw [eff_11]
  obtain ⟨⟨d0, d7⟩, ⟨a0, a7⟩, ⟨b0, b7⟩, _⟩ := sok_bd (sok_of hi)
  obtain ⟨n0, n1⟩ := num_bd (iok_num hi)
  obtain ⟨f0, f7⟩ := f_bd (iok_f hi)
  have hlm := h.lt
  have hnx : 0 ≤ nx s ∧ nx s < 65536 := by unfold nx; omega
  have hR := Lib.hid hk.Rl
  have HK := Lib.hid hk
  have F0 := Fr.alloc u (.cells #[.int .i64 11, .int .i64 d, .int .i64 a, .int .i64 b, .int .i64 f, .int .i64 n] 48)
  have HM := Lib.hid (h.fr F0)
  have HX0 := Lib.hid (Box.new u 11 d a b f n 48)
  have HF := Lib.hid F0
  have ho := h.ow
  have lr := ho.R.lt
  have lc := ho.C.lt
  have lm := ho.M.lt
  clear h hk F0 ho
  go_enter Tryd.func103, Tryd.ntmps103
  go_wp2_with fail
  generalize (u.alloc (.cells #[.int .i64 11, .int .i64 d, .int .i64 a, .int .i64 b, .int .i64 f, .int .i64 n] 48)) = u0 at *
  have hz := HF.out.size
  have hXl := HX0.out.lt
  have HX := Lib.hid HX0.out
  clear HX0
  generalize hXe : u.heap.size = X at *
  simp only [goto]
  (first | refine bodyPost_end (results_none rfl _ _ _) rfl ?_ | refine bodyPost_ret (results_none rfl _ _ _) rfl ?_)
  exact ⟨rfl, HM.out, But.of HF.out⟩
set_option maxRecDepth 8000 in
set_option maxHeartbeats 4000000 in
theorem ef_sys (u : World) (m gr gc gm cr cc cm : Nat) (s : St) (e : Ev) (d a b f n : Int) (h : Mx u m gr gc gm cr cc cm s e (nx s)) (hk : OkS s) (hi : iok 12 d a b f n = true) :
    Calls Tryd.prog 104 #[.pointer (some ⟨m, 0, none⟩), .agg #[.int .i64 12, .int .i64 d, .int .i64 a, .int .i64 b, .int .i64 f, .int .i64 n]] u (EfP (effS s e 12 d a b f n) m gr gc gm cr cc cm s e u) := by
  rw [eff_12]
  obtain ⟨⟨d0, d7⟩, ⟨a0, a7⟩, ⟨b0, b7⟩, _⟩ := sok_bd (sok_of hi)
  obtain ⟨n0, n1⟩ := num_bd (iok_num hi)
  obtain ⟨f0, f7⟩ := f_bd (iok_f hi)
  have hlm := h.lt
  have hnx : 0 ≤ nx s ∧ nx s < 65536 := by unfold nx; omega
  have hR := Lib.hid hk.Rl
  have HK := Lib.hid hk
  have F0 := Fr.alloc u (.cells #[.int .i64 12, .int .i64 d, .int .i64 a, .int .i64 b, .int .i64 f, .int .i64 n] 48)
  have HM := Lib.hid (h.fr F0)
  have HX0 := Lib.hid (Box.new u 12 d a b f n 48)
  have HF := Lib.hid F0
  have ho := h.ow
  have lr := ho.R.lt
  have lc := ho.C.lt
  have lm := ho.M.lt
  clear h hk F0 ho
  go_enter Tryd.func104, Tryd.ntmps104
  go_wp2_with fail
  generalize (u.alloc (.cells #[.int .i64 12, .int .i64 d, .int .i64 a, .int .i64 b, .int .i64 f, .int .i64 n] 48)) = u0 at *
  have hz := HF.out.size
  have hXl := HX0.out.lt
  have HX := Lib.hid HX0.out
  clear HX0
  generalize hXe : u.heap.size = X at *
  obtain ⟨x0, x1, x2, x3, x4, x5⟩ := HX.out
  go_wp2_with fail
  exact ⟨rfl, rfl, HM.out, But.of HF.out⟩

end Go.Proofs.YtbjapncfgancoaaDoor
