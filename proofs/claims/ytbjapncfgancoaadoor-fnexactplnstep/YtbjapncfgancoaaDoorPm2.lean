/- What each of the sixteen methods of the program's machine does. -/
import Derived.Test.YtbjapncfgancoaaDoorPm1
import Derived.Test.YtbjapncfgancoaaDoorRegion5
import Derived.Test.YtbjapncfgancoaaDoorSlim
import Derived.Test.YtbjapncfgancoaaDoorPl13
namespace Go.Proofs.YtbjapncfgancoaaDoor
open Go.RowKit
set_option linter.unusedVariables false
set_option linter.unusedSimpArgs false
/-- Behind a method: the machine has stopped, or done what it does. -/
def EfP (o : Out) (m gr gc gm cr cc cm : Nat) (s : St) (e : Ev) (u : World) (r : Ending) (u' : World) : Prop :=
 match o with
 | .stop why => r = trapE why ∧ Mx u' m gr gc gm cr cc cm s e (nx s) ∧ But [m, gr, gc, gm] u u'
 | .go s' e' => r = .returned (.tuple #[]) ∧ Mx u' m gr gc gm cr cc cm ⟨s.pc, s'.R, s'.C, s'.M⟩ e' s'.pc ∧ But [m, gr, gc, gm] u u'
theorem num_bd {k n : Int} (h : numOk k n = true) : -256 ≤ n ∧ n ≤ 511 := by
 unfold numOk at h
 split at h
 ·have : n = 0 := by simpa using h
  omega
 ·split at h
  ·have := of_decide_eq_true h; omega
  ·split at h
   ·have := of_decide_eq_true h; omega
   ·have := of_decide_eq_true h; omega
theorem f_bd {k f : Int} (h : 0 ≤ f ∧ f ≤ topF k) : 0 ≤ f ∧ f ≤ 7 := by
 obtain ⟨h0, h1⟩ := h
 unfold topF at h1
 split at h1
 ·omega
 ·split at h1 <;> omega
theorem But.up {L L' : List Nat} {w w' : World} (h : But L w w') (hL : ∀ k, k ∈ L → k ∈ L') : But L' w w' := h.mono (fun k hk _ => hL k hk)
set_option maxRecDepth 8000 in
set_option maxHeartbeats 4000000 in
theorem ef_alu (u : World) (m gr gc gm cr cc cm : Nat) (s : St) (e : Ev) (d a b f n : Int) (h : Mx u m gr gc gm cr cc cm s e (nx s)) (hk : OkS s) (hi : iok 0 d a b f n = true) :
  Calls Tryd.prog 92 #[.pointer (some ⟨m, 0, none⟩), .agg #[.int .i64 0, .int .i64 d, .int .i64 a, .int .i64 b, .int .i64 f, .int .i64 n]] u (EfP (effS s e 0 d a b f n) m gr gc gm cr cc cm s e u) := by
 rw [eff_0]
 obtain ⟨⟨d0, d7⟩, ⟨a0, a7⟩, ⟨b0, b7⟩, _⟩ := sok_bd (sok_of hi)
 obtain ⟨n0, n1⟩ := num_bd (iok_num hi)
 obtain ⟨f0, f7⟩ := f_bd (iok_f hi)
 have hlm := h.lt
 have hnx : 0 ≤ nx s ∧ nx s < 65536 := by unfold nx; omega
 have hR := Lib.hid hk.Rl
 have HK := Lib.hid hk
 have qva := ok_get hk.R a.toNat
 have qvb := ok_get hk.R b.toNat
 have F0 := Fr.alloc u (.cells #[.int .i64 0, .int .i64 d, .int .i64 a, .int .i64 b, .int .i64 f, .int .i64 n] 48)
 have HM := Lib.hid (h.fr F0)
 have HX0 := Lib.hid (Box.new u 0 d a b f n 48)
 have HF := Lib.hid F0
 have ho := h.ow
 have lr := ho.R.lt
 have lc := ho.C.lt
 have lm := ho.M.lt
 clear h hk F0 ho
 obtain ⟨va, hva⟩ : ∃ x, s.R.getD a.toNat 0 = x := ⟨_, rfl⟩
 rw [hva] at qva
 obtain ⟨qva0, qva1⟩ := qva
 obtain ⟨vb, hvb⟩ : ∃ x, s.R.getD b.toNat 0 = x := ⟨_, rfl⟩
 rw [hvb] at qvb
 obtain ⟨qvb0, qvb1⟩ := qvb
 simp only [put, goto, rg, mm, hva, hvb]
 go_enter Tryd.func92, Tryd.ntmps92
 go_wp2_with fail
 generalize (u.alloc (.cells #[.int .i64 0, .int .i64 d, .int .i64 a, .int .i64 b, .int .i64 f, .int .i64 n] 48)) = u0 at *
 have hz := HF.out.size
 have hXl := HX0.out.lt
 have HX := Lib.hid HX0.out
 clear HX0
 generalize hXe : u.heap.size = X at *
 refine wp_region_lots2 29 (fun i => if i = 24 then [m, gr] else []) (fun _ _ => True) (fun i v u => match i with | 0 => v = .pointer (some ⟨m, 0, none⟩) | 1 => v = .pointer (some ⟨X, 1, none⟩) | 2 => v = .int .i64 d | 3 => v = .pointer (some ⟨X, 4, none⟩) | 4 => v = .int .i64 f | 5 => v = .pointer (some ⟨m, 0, none⟩) | 6 => v = .pointer (some ⟨m, 0, none⟩) | 7 => v = .pointer (some ⟨m, 0, none⟩) | 8 => v = .pointer (some ⟨m, 1, none⟩) | 9 => v = .slice (some ⟨gr, 0, none⟩) 8 cr | 10 => v = .pointer (some ⟨X, 2, none⟩) | 11 => v = .int .i64 a | 12 => v = .pointer (some ⟨gr, a.toNat, none⟩) | 13 => v = .int .i64 va | 14 => v = .pointer (some ⟨m, 0, none⟩) | 15 => v = .pointer (some ⟨m, 0, none⟩) | 16 => v = .pointer (some ⟨m, 0, none⟩) | 17 => v = .pointer (some ⟨m, 1, none⟩) | 18 => v = .slice (some ⟨gr, 0, none⟩) 8 cr | 19 => v = .pointer (some ⟨X, 3, none⟩) | 20 => v = .int .i64 b | 21 => v = .pointer (some ⟨gr, b.toNat, none⟩) | 22 => v = .int .i64 vb | 23 => v = .int .i64 (aluD f va vb) | 24 => (v = .tuple #[] ∧ Mx u m gr gc gm cr cc cm ⟨s.pc, putR s.R d (aluD f va vb), s.C, s.M⟩ (putE e d (aluD f va vb)) (nx s)) | _ => True) ?mono (by kernel_rfl) (by kernel_rfl) rfl (by kernel_rfl) trivial ?step ?fin
 case mono =>
  intro i j v u u' hij hsz h hB
  rcases j with _ | _ | _ | _ | _ | _ | _ | _ | _ | _ | _ | _ | _ | _ | _ | _ | _ | _ | _ | _ | _ | _ | _ | _ | _ | j
  ·exact h
  ·exact h
  ·exact h
  ·exact h
  ·exact h
  ·exact h
  ·exact h
  ·exact h
  ·exact h
  ·exact h
  ·exact h
  ·exact h
  ·exact h
  ·exact h
  ·exact h
  ·exact h
  ·exact h
  ·exact h
  ·exact h
  ·exact h
  ·exact h
  ·exact h
  ·exact h
  ·exact h
  ·exact (by have hB2 : But [] u u' := (by have hx := hB; simp only [if_neg hij] at hx; exact hx); exact ⟨h.1, h.2.but hB2 (by simp) (by simp) (by simp) (by simp)⟩)
  ·trivial
 case step =>
  intro i o ho
  rcases i with _ | _ | _ | _ | _ | _ | _ | _ | _ | _ | _ | _ | _ | _ | _ | _ | _ | _ | _ | _ | _ | _ | _ | _ | _ | i
  ·cases ho
   intro fu act u hW hB hsz hL hdep
   replace hB := hB [] (fun j hj hd k hk => by
    by_cases xz : j = 24
    ·subst xz; exact (depT_no hd (by kernel_rfl)).elim
    rw [if_neg xz] at hk; cases hk)
   have x0 : act.tmps.getD 0 undef = (.pointer (some ⟨m, 0, none⟩) : Value) := (hL.2.2 0 (no_dst (by kernel_rfl))).trans rfl
   clear hdep hL
   refine wpOp_step rfl (fun K hK => ?_)
   go_simp
   exact hK _ _ ⟨_, rfl, (fun h => by cases h), (by first | rfl | (exact congrArg (Value.int .i64) (by rw [IntWalk.i64_left, IntWalk.wrap64_in _ (by omega)])) | simp), But.refl _ _, trivial⟩
  ·cases ho
   intro fu act u hW hB hsz hL hdep
   replace hB := hB [] (fun j hj hd k hk => by
    by_cases xz : j = 24
    ·subst xz; exact (depT_no hd (by kernel_rfl)).elim
    rw [if_neg xz] at hk; cases hk)
   have x3 : act.tmps.getD 3 undef = (.pointer (some ⟨X, 0, none⟩) : Value) := (hL.2.2 3 (no_dst (by kernel_rfl))).trans rfl
   clear hdep hL
   refine wpOp_step rfl (fun K hK => ?_)
   go_simp
   exact hK _ _ ⟨_, rfl, (fun h => by cases h), (by first | rfl | (exact congrArg (Value.int .i64) (by rw [IntWalk.i64_left, IntWalk.wrap64_in _ (by omega)])) | simp), But.refl _ _, trivial⟩
  ·cases ho
   intro fu act u hW hB hsz hL hdep
   replace hB := hB [] (fun j hj hd k hk => by
    by_cases xz : j = 24
    ·subst xz; exact (depT_no hd (by kernel_rfl)).elim
    rw [if_neg xz] at hk; cases hk)
   have e1 : act.tmps.getD 5 undef = (.pointer (some ⟨X, 1, none⟩) : Value) := hdep { on := 1, ground := .data } (by simp) rfl _ rfl
   clear hdep hL
   have c := (HX.out.but hB (by simp)).c1
   refine wpOp_step rfl (fun K hK => ?_)
   go_simp
   exact hK _ _ ⟨_, rfl, (fun h => by cases h), (by first | rfl | (exact congrArg (Value.int .i64) (by rw [IntWalk.i64_left, IntWalk.wrap64_in _ (by omega)])) | simp), But.refl _ _, trivial⟩
  ·cases ho
   intro fu act u hW hB hsz hL hdep
   replace hB := hB [] (fun j hj hd k hk => by
    by_cases xz : j = 24
    ·subst xz; exact (depT_no hd (by kernel_rfl)).elim
    rw [if_neg xz] at hk; cases hk)
   have x3 : act.tmps.getD 3 undef = (.pointer (some ⟨X, 0, none⟩) : Value) := (hL.2.2 3 (no_dst (by kernel_rfl))).trans rfl
   clear hdep hL
   refine wpOp_step rfl (fun K hK => ?_)
   go_simp
   exact hK _ _ ⟨_, rfl, (fun h => by cases h), (by first | rfl | (exact congrArg (Value.int .i64) (by rw [IntWalk.i64_left, IntWalk.wrap64_in _ (by omega)])) | simp), But.refl _ _, trivial⟩
  ·cases ho
   intro fu act u hW hB hsz hL hdep
   replace hB := hB [] (fun j hj hd k hk => by
    by_cases xz : j = 24
    ·subst xz; exact (depT_no hd (by kernel_rfl)).elim
    rw [if_neg xz] at hk; cases hk)
   have e3 : act.tmps.getD 7 undef = (.pointer (some ⟨X, 4, none⟩) : Value) := hdep { on := 3, ground := .data } (by simp) rfl _ rfl
   clear hdep hL
   have c := (HX.out.but hB (by simp)).c4
   refine wpOp_step rfl (fun K hK => ?_)
   go_simp
   exact hK _ _ ⟨_, rfl, (fun h => by cases h), (by first | rfl | (exact congrArg (Value.int .i64) (by rw [IntWalk.i64_left, IntWalk.wrap64_in _ (by omega)])) | simp), But.refl _ _, trivial⟩
  ·cases ho
   intro fu act u hW hB hsz hL hdep
   replace hB := hB [] (fun j hj hd k hk => by
    by_cases xz : j = 24
    ·subst xz; exact (depT_no hd (by kernel_rfl)).elim
    rw [if_neg xz] at hk; cases hk)
   have x0 : act.tmps.getD 0 undef = (.pointer (some ⟨m, 0, none⟩) : Value) := (hL.2.2 0 (no_dst (by kernel_rfl))).trans rfl
   clear hdep hL
   refine wpOp_step rfl (fun K hK => ?_)
   go_simp
   exact hK _ _ ⟨_, rfl, (fun h => by cases h), (by first | rfl | (exact congrArg (Value.int .i64) (by rw [IntWalk.i64_left, IntWalk.wrap64_in _ (by omega)])) | simp), But.refl _ _, trivial⟩
  ·cases ho
   intro fu act u hW hB hsz hL hdep
   replace hB := hB [] (fun j hj hd k hk => by
    by_cases xz : j = 24
    ·subst xz; exact (depT_no hd (by kernel_rfl)).elim
    rw [if_neg xz] at hk; cases hk)
   have e5 : act.tmps.getD 9 undef = (.pointer (some ⟨m, 0, none⟩) : Value) := hdep { on := 5, ground := .data } (by simp) rfl _ rfl
   clear hdep hL
   refine wpOp_step rfl (fun K hK => ?_)
   go_simp
   exact hK _ _ ⟨_, rfl, (fun h => by cases h), (by first | rfl | (exact congrArg (Value.int .i64) (by rw [IntWalk.i64_left, IntWalk.wrap64_in _ (by omega)])) | simp), But.refl _ _, trivial⟩
  ·cases ho
   intro fu act u hW hB hsz hL hdep
   replace hB := hB [] (fun j hj hd k hk => by
    by_cases xz : j = 24
    ·subst xz; exact (depT_no hd (by kernel_rfl)).elim
    rw [if_neg xz] at hk; cases hk)
   have e6 : act.tmps.getD 10 undef = (.pointer (some ⟨m, 0, none⟩) : Value) := hdep { on := 6, ground := .data } (by simp) rfl _ rfl
   clear hdep hL
   refine wpOp_step rfl (fun K hK => ?_)
   go_simp
   exact hK _ _ ⟨_, rfl, (fun h => by cases h), (by first | rfl | (exact congrArg (Value.int .i64) (by rw [IntWalk.i64_left, IntWalk.wrap64_in _ (by omega)])) | simp), But.refl _ _, trivial⟩
  ·cases ho
   intro fu act u hW hB hsz hL hdep
   replace hB := hB [] (fun j hj hd k hk => by
    by_cases xz : j = 24
    ·subst xz; exact (depT_no hd (by kernel_rfl)).elim
    rw [if_neg xz] at hk; cases hk)
   have e7 : act.tmps.getD 11 undef = (.pointer (some ⟨m, 0, none⟩) : Value) := hdep { on := 7, ground := .data } (by simp) rfl _ rfl
   clear hdep hL
   refine wpOp_step rfl (fun K hK => ?_)
   go_simp
   exact hK _ _ ⟨_, rfl, (fun h => by cases h), (by first | rfl | (exact congrArg (Value.int .i64) (by rw [IntWalk.i64_left, IntWalk.wrap64_in _ (by omega)])) | simp), But.refl _ _, trivial⟩
  ·cases ho
   intro fu act u hW hB hsz hL hdep
   replace hB := hB [] (fun j hj hd k hk => by
    by_cases xz : j = 24
    ·subst xz; exact (depT_no hd (by kernel_rfl)).elim
    rw [if_neg xz] at hk; cases hk)
   have e8 : act.tmps.getD 12 undef = (.pointer (some ⟨m, 1, none⟩) : Value) := hdep { on := 8, ground := .data } (by simp) rfl _ rfl
   clear hdep hL
   have hm := HM.out.but hB (by simp) (by simp) (by simp) (by simp)
   have c := hm.cel 1 (by decide)
   simp only [mCells, List.getElem?_cons_succ, List.getElem?_cons_zero] at c
   clear hm
   refine wpOp_step rfl (fun K hK => ?_)
   go_simp
   exact hK _ _ ⟨_, rfl, (fun h => by cases h), (by first | rfl | (exact congrArg (Value.int .i64) (by rw [IntWalk.i64_left, IntWalk.wrap64_in _ (by omega)])) | simp), But.refl _ _, trivial⟩
  ·cases ho
   intro fu act u hW hB hsz hL hdep
   replace hB := hB [] (fun j hj hd k hk => by
    by_cases xz : j = 24
    ·subst xz; exact (depT_no hd (by kernel_rfl)).elim
    rw [if_neg xz] at hk; cases hk)
   have x3 : act.tmps.getD 3 undef = (.pointer (some ⟨X, 0, none⟩) : Value) := (hL.2.2 3 (no_dst (by kernel_rfl))).trans rfl
   clear hdep hL
   refine wpOp_step rfl (fun K hK => ?_)
   go_simp
   exact hK _ _ ⟨_, rfl, (fun h => by cases h), (by first | rfl | (exact congrArg (Value.int .i64) (by rw [IntWalk.i64_left, IntWalk.wrap64_in _ (by omega)])) | simp), But.refl _ _, trivial⟩
  ·cases ho
   intro fu act u hW hB hsz hL hdep
   replace hB := hB [] (fun j hj hd k hk => by
    by_cases xz : j = 24
    ·subst xz; exact (depT_no hd (by kernel_rfl)).elim
    rw [if_neg xz] at hk; cases hk)
   have e10 : act.tmps.getD 14 undef = (.pointer (some ⟨X, 2, none⟩) : Value) := hdep { on := 10, ground := .data } (by simp) rfl _ rfl
   clear hdep hL
   have c := (HX.out.but hB (by simp)).c2
   refine wpOp_step rfl (fun K hK => ?_)
   go_simp
   exact hK _ _ ⟨_, rfl, (fun h => by cases h), (by first | rfl | (exact congrArg (Value.int .i64) (by rw [IntWalk.i64_left, IntWalk.wrap64_in _ (by omega)])) | simp), But.refl _ _, trivial⟩
  ·cases ho
   intro fu act u hW hB hsz hL hdep
   replace hB := hB [] (fun j hj hd k hk => by
    by_cases xz : j = 24
    ·subst xz; exact (depT_no hd (by kernel_rfl)).elim
    rw [if_neg xz] at hk; cases hk)
   have e9 : act.tmps.getD 13 undef = (.slice (some ⟨gr, 0, none⟩) 8 cr : Value) := hdep { on := 9, ground := .data } (by simp) rfl _ rfl
   have e11 : act.tmps.getD 15 undef = (.int .i64 a : Value) := hdep { on := 11, ground := .data } (by simp) rfl _ rfl
   clear hdep hL
   have ix0 : 0 ≤ a := by omega
   have ix1 : a < 8 := by omega
   refine wpOp_step rfl (fun K hK => ?_)
   go_simp
   exact hK _ _ ⟨_, rfl, (fun h => by cases h), (by first | rfl | (exact congrArg (Value.int .i64) (by rw [IntWalk.i64_left, IntWalk.wrap64_in _ (by omega)])) | simp), But.refl _ _, trivial⟩
  ·cases ho
   intro fu act u hW hB hsz hL hdep
   replace hB := hB [] (fun j hj hd k hk => by
    by_cases xz : j = 24
    ·subst xz; exact (depT_no hd (by kernel_rfl)).elim
    rw [if_neg xz] at hk; cases hk)
   have e12 : act.tmps.getD 16 undef = (.pointer (some ⟨gr, a.toNat, none⟩) : Value) := hdep { on := 12, ground := .data } (by simp) rfl _ rfl
   clear hdep hL
   have hm := HM.out.but hB (by simp) (by simp) (by simp) (by simp)
   have c := hm.ow.R.cel (a.toNat) (by have h1 := HK.out.Rl; have h2 := HK.out.Cl; have h3 := HK.out.Ml; omega)
   clear hm
   rw [hva] at c
   refine wpOp_step rfl (fun K hK => ?_)
   go_simp
   exact hK _ _ ⟨_, rfl, (fun h => by cases h), (by first | rfl | (exact congrArg (Value.int .i64) (by rw [IntWalk.i64_left, IntWalk.wrap64_in _ (by omega)])) | simp), But.refl _ _, trivial⟩
  ·cases ho
   intro fu act u hW hB hsz hL hdep
   replace hB := hB [] (fun j hj hd k hk => by
    by_cases xz : j = 24
    ·subst xz; exact (depT_no hd (by kernel_rfl)).elim
    rw [if_neg xz] at hk; cases hk)
   have x0 : act.tmps.getD 0 undef = (.pointer (some ⟨m, 0, none⟩) : Value) := (hL.2.2 0 (no_dst (by kernel_rfl))).trans rfl
   clear hdep hL
   refine wpOp_step rfl (fun K hK => ?_)
   go_simp
   exact hK _ _ ⟨_, rfl, (fun h => by cases h), (by first | rfl | (exact congrArg (Value.int .i64) (by rw [IntWalk.i64_left, IntWalk.wrap64_in _ (by omega)])) | simp), But.refl _ _, trivial⟩
  ·cases ho
   intro fu act u hW hB hsz hL hdep
   replace hB := hB [] (fun j hj hd k hk => by
    by_cases xz : j = 24
    ·subst xz; exact (depT_no hd (by kernel_rfl)).elim
    rw [if_neg xz] at hk; cases hk)
   have e14 : act.tmps.getD 18 undef = (.pointer (some ⟨m, 0, none⟩) : Value) := hdep { on := 14, ground := .data } (by simp) rfl _ rfl
   clear hdep hL
   refine wpOp_step rfl (fun K hK => ?_)
   go_simp
   exact hK _ _ ⟨_, rfl, (fun h => by cases h), (by first | rfl | (exact congrArg (Value.int .i64) (by rw [IntWalk.i64_left, IntWalk.wrap64_in _ (by omega)])) | simp), But.refl _ _, trivial⟩
  ·cases ho
   intro fu act u hW hB hsz hL hdep
   replace hB := hB [] (fun j hj hd k hk => by
    by_cases xz : j = 24
    ·subst xz; exact (depT_no hd (by kernel_rfl)).elim
    rw [if_neg xz] at hk; cases hk)
   have e15 : act.tmps.getD 19 undef = (.pointer (some ⟨m, 0, none⟩) : Value) := hdep { on := 15, ground := .data } (by simp) rfl _ rfl
   clear hdep hL
   refine wpOp_step rfl (fun K hK => ?_)
   go_simp
   exact hK _ _ ⟨_, rfl, (fun h => by cases h), (by first | rfl | (exact congrArg (Value.int .i64) (by rw [IntWalk.i64_left, IntWalk.wrap64_in _ (by omega)])) | simp), But.refl _ _, trivial⟩
  ·cases ho
   intro fu act u hW hB hsz hL hdep
   replace hB := hB [] (fun j hj hd k hk => by
    by_cases xz : j = 24
    ·subst xz; exact (depT_no hd (by kernel_rfl)).elim
    rw [if_neg xz] at hk; cases hk)
   have e16 : act.tmps.getD 20 undef = (.pointer (some ⟨m, 0, none⟩) : Value) := hdep { on := 16, ground := .data } (by simp) rfl _ rfl
   clear hdep hL
   refine wpOp_step rfl (fun K hK => ?_)
   go_simp
   exact hK _ _ ⟨_, rfl, (fun h => by cases h), (by first | rfl | (exact congrArg (Value.int .i64) (by rw [IntWalk.i64_left, IntWalk.wrap64_in _ (by omega)])) | simp), But.refl _ _, trivial⟩
  ·cases ho
   intro fu act u hW hB hsz hL hdep
   replace hB := hB [] (fun j hj hd k hk => by
    by_cases xz : j = 24
    ·subst xz; exact (depT_no hd (by kernel_rfl)).elim
    rw [if_neg xz] at hk; cases hk)
   have e17 : act.tmps.getD 21 undef = (.pointer (some ⟨m, 1, none⟩) : Value) := hdep { on := 17, ground := .data } (by simp) rfl _ rfl
   clear hdep hL
   have hm := HM.out.but hB (by simp) (by simp) (by simp) (by simp)
   have c := hm.cel 1 (by decide)
   simp only [mCells, List.getElem?_cons_succ, List.getElem?_cons_zero] at c
   clear hm
   refine wpOp_step rfl (fun K hK => ?_)
   go_simp
   exact hK _ _ ⟨_, rfl, (fun h => by cases h), (by first | rfl | (exact congrArg (Value.int .i64) (by rw [IntWalk.i64_left, IntWalk.wrap64_in _ (by omega)])) | simp), But.refl _ _, trivial⟩
  ·cases ho
   intro fu act u hW hB hsz hL hdep
   replace hB := hB [] (fun j hj hd k hk => by
    by_cases xz : j = 24
    ·subst xz; exact (depT_no hd (by kernel_rfl)).elim
    rw [if_neg xz] at hk; cases hk)
   have x3 : act.tmps.getD 3 undef = (.pointer (some ⟨X, 0, none⟩) : Value) := (hL.2.2 3 (no_dst (by kernel_rfl))).trans rfl
   clear hdep hL
   refine wpOp_step rfl (fun K hK => ?_)
   go_simp
   exact hK _ _ ⟨_, rfl, (fun h => by cases h), (by first | rfl | (exact congrArg (Value.int .i64) (by rw [IntWalk.i64_left, IntWalk.wrap64_in _ (by omega)])) | simp), But.refl _ _, trivial⟩
  ·cases ho
   intro fu act u hW hB hsz hL hdep
   replace hB := hB [] (fun j hj hd k hk => by
    by_cases xz : j = 24
    ·subst xz; exact (depT_no hd (by kernel_rfl)).elim
    rw [if_neg xz] at hk; cases hk)
   have e19 : act.tmps.getD 23 undef = (.pointer (some ⟨X, 3, none⟩) : Value) := hdep { on := 19, ground := .data } (by simp) rfl _ rfl
   clear hdep hL
   have c := (HX.out.but hB (by simp)).c3
   refine wpOp_step rfl (fun K hK => ?_)
   go_simp
   exact hK _ _ ⟨_, rfl, (fun h => by cases h), (by first | rfl | (exact congrArg (Value.int .i64) (by rw [IntWalk.i64_left, IntWalk.wrap64_in _ (by omega)])) | simp), But.refl _ _, trivial⟩
  ·cases ho
   intro fu act u hW hB hsz hL hdep
   replace hB := hB [] (fun j hj hd k hk => by
    by_cases xz : j = 24
    ·subst xz; exact (depT_no hd (by kernel_rfl)).elim
    rw [if_neg xz] at hk; cases hk)
   have e18 : act.tmps.getD 22 undef = (.slice (some ⟨gr, 0, none⟩) 8 cr : Value) := hdep { on := 18, ground := .data } (by simp) rfl _ rfl
   have e20 : act.tmps.getD 24 undef = (.int .i64 b : Value) := hdep { on := 20, ground := .data } (by simp) rfl _ rfl
   clear hdep hL
   have ix0 : 0 ≤ b := by omega
   have ix1 : b < 8 := by omega
   refine wpOp_step rfl (fun K hK => ?_)
   go_simp
   exact hK _ _ ⟨_, rfl, (fun h => by cases h), (by first | rfl | (exact congrArg (Value.int .i64) (by rw [IntWalk.i64_left, IntWalk.wrap64_in _ (by omega)])) | simp), But.refl _ _, trivial⟩
  ·cases ho
   intro fu act u hW hB hsz hL hdep
   replace hB := hB [] (fun j hj hd k hk => by
    by_cases xz : j = 24
    ·subst xz; exact (depT_no hd (by kernel_rfl)).elim
    rw [if_neg xz] at hk; cases hk)
   have e21 : act.tmps.getD 25 undef = (.pointer (some ⟨gr, b.toNat, none⟩) : Value) := hdep { on := 21, ground := .data } (by simp) rfl _ rfl
   clear hdep hL
   have hm := HM.out.but hB (by simp) (by simp) (by simp) (by simp)
   have c := hm.ow.R.cel (b.toNat) (by have h1 := HK.out.Rl; have h2 := HK.out.Cl; have h3 := HK.out.Ml; omega)
   clear hm
   rw [hvb] at c
   refine wpOp_step rfl (fun K hK => ?_)
   go_simp
   exact hK _ _ ⟨_, rfl, (fun h => by cases h), (by first | rfl | (exact congrArg (Value.int .i64) (by rw [IntWalk.i64_left, IntWalk.wrap64_in _ (by omega)])) | simp), But.refl _ _, trivial⟩
  ·cases ho
   intro fu act u hW hB hsz hL hdep
   replace hB := hB [] (fun j hj hd k hk => by
    by_cases xz : j = 24
    ·subst xz; exact (depT_no hd (by kernel_rfl)).elim
    rw [if_neg xz] at hk; cases hk)
   have e4 : act.tmps.getD 8 undef = (.int .i64 f : Value) := hdep { on := 4, ground := .data } (by simp) rfl _ rfl
   have e13 : act.tmps.getD 17 undef = (.int .i64 va : Value) := hdep { on := 13, ground := .data } (by simp) rfl _ rfl
   have e22 : act.tmps.getD 26 undef = (.int .i64 vb : Value) := hdep { on := 22, ground := .data } (by simp) rfl _ rfl
   have hdf := Lib.hid (show act.defers = [] from hL.1)
   clear hdep hL
   refine wpOp_step rfl (fun K hK => ?_)
   go_simp
   refine (impl_AluDo _ _ _ u).mono ?_
   rintro r u' ⟨rfl, rfl⟩
   go_simp
   exact hK _ _ ⟨_, rfl, (fun h => by cases h), rfl, But.refl _ _, trivial⟩
  ·cases ho
   intro fu act u hW hB hsz hL hdep
   replace hB := hB [] (fun j hj hd k hk => by
    rw [if_neg hj] at hk; cases hk)
   have e0 : act.tmps.getD 4 undef = (.pointer (some ⟨m, 0, none⟩) : Value) := hdep { on := 0, ground := .data } (by simp) rfl _ rfl
   have e2 : act.tmps.getD 6 undef = (.int .i64 d : Value) := hdep { on := 2, ground := .data } (by simp) rfl _ rfl
   have e23 : act.tmps.getD 27 undef = (.int .i64 (aluD f va vb) : Value) := hdep { on := 23, ground := .data } (by simp) rfl _ rfl
   have hdf := Lib.hid (show act.defers = [] from hL.1)
   clear hdep hL
   refine wpOp_step rfl (fun K hK => ?_)
   go_simp
   refine (impl_put u m gr gc gm cr cc cm s e (nx s) d (aluD f va vb) (HM.out.but hB (by simp) (by simp) (by simp) (by simp)) hR.out d0 d7).mono ?_
   rintro r u' ⟨rfl, hM', hB'⟩
   go_simp
   exact hK _ _ ⟨_, rfl, (fun h => by cases h), ⟨rfl, hM'⟩, hB', trivial⟩
  ·exact absurd ho (by simp)
 case fin =>
  intro act u hW hsz hB hL hsf
  replace hB := hB [m, gr] (fun j k hk => by
   by_cases yz : j = 24
   ·rw [if_pos yz] at hk; exact hk
   rw [if_neg yz] at hk
   cases hk)
  have d24 := hsf 24 _ rfl
  obtain ⟨ysl, ha, hy⟩ := hL.puts [4, 5, 6, 7, 8, 9, 10, 11, 12, 13, 14, 15, 16, 17, 18, 19, 20, 21, 22, 23, 24, 25, 26, 27, 28] (by kernel_rfl)
  clear hL hsf hy
  simp only [List.foldl, List.setIfInBounds_toArray, List.set_cons_succ, List.set_cons_zero] at ha
  subst ha
  obtain ⟨_, hM'⟩ := d24
  go_wp2_with fail
  (first | refine bodyPost_end (results_none rfl _ _ _) rfl ?_ | refine bodyPost_ret (results_none rfl _ _ _) rfl ?_)
  exact ⟨rfl, hM', (((But.of HF.out).trans (hB.up (fun k hk => by simp at hk ⊢; omega))))⟩
set_option maxRecDepth 8000 in
set_option maxHeartbeats 4000000 in
theorem ef_addi (u : World) (m gr gc gm cr cc cm : Nat) (s : St) (e : Ev) (d a b f n : Int) (h : Mx u m gr gc gm cr cc cm s e (nx s)) (hk : OkS s) (hi : iok 1 d a b f n = true) :
  Calls Tryd.prog 93 #[.pointer (some ⟨m, 0, none⟩), .agg #[.int .i64 1, .int .i64 d, .int .i64 a, .int .i64 b, .int .i64 f, .int .i64 n]] u (EfP (effS s e 1 d a b f n) m gr gc gm cr cc cm s e u) := by
 rw [eff_1]
 obtain ⟨⟨d0, d7⟩, ⟨a0, a7⟩, ⟨b0, b7⟩, _⟩ := sok_bd (sok_of hi)
 obtain ⟨n0, n1⟩ := num_bd (iok_num hi)
 obtain ⟨f0, f7⟩ := f_bd (iok_f hi)
 have hlm := h.lt
 have hnx : 0 ≤ nx s ∧ nx s < 65536 := by unfold nx; omega
 have hR := Lib.hid hk.Rl
 have HK := Lib.hid hk
 have qva := ok_get hk.R a.toNat
 have F0 := Fr.alloc u (.cells #[.int .i64 1, .int .i64 d, .int .i64 a, .int .i64 b, .int .i64 f, .int .i64 n] 48)
 have HM := Lib.hid (h.fr F0)
 have HX0 := Lib.hid (Box.new u 1 d a b f n 48)
 have HF := Lib.hid F0
 have ho := h.ow
 have lr := ho.R.lt
 have lc := ho.C.lt
 have lm := ho.M.lt
 clear h hk F0 ho
 obtain ⟨va, hva⟩ : ∃ x, s.R.getD a.toNat 0 = x := ⟨_, rfl⟩
 rw [hva] at qva
 obtain ⟨qva0, qva1⟩ := qva
 simp only [put, goto, rg, mm, hva]
 go_enter Tryd.func93, Tryd.ntmps93
 go_wp2_with fail
 generalize (u.alloc (.cells #[.int .i64 1, .int .i64 d, .int .i64 a, .int .i64 b, .int .i64 f, .int .i64 n] 48)) = u0 at *
 have hz := HF.out.size
 have hXl := HX0.out.lt
 have HX := Lib.hid HX0.out
 clear HX0
 generalize hXe : u.heap.size = X at *
 refine wp_region_lots2 21 (fun i => if i = 16 then [m, gr] else []) (fun _ _ => True) (fun i v u => match i with | 0 => v = .pointer (some ⟨m, 0, none⟩) | 1 => v = .pointer (some ⟨X, 1, none⟩) | 2 => v = .int .i64 d | 3 => v = .pointer (some ⟨m, 0, none⟩) | 4 => v = .pointer (some ⟨m, 0, none⟩) | 5 => v = .pointer (some ⟨m, 0, none⟩) | 6 => v = .pointer (some ⟨m, 1, none⟩) | 7 => v = .slice (some ⟨gr, 0, none⟩) 8 cr | 8 => v = .pointer (some ⟨X, 2, none⟩) | 9 => v = .int .i64 a | 10 => v = .pointer (some ⟨gr, a.toNat, none⟩) | 11 => v = .int .i64 va | 12 => v = .pointer (some ⟨X, 5, none⟩) | 13 => v = .int .i64 n | 14 => v = .int .i64 (va + n) | 15 => v = .int .i64 ((va + n) % 65536) | 16 => (v = .tuple #[] ∧ Mx u m gr gc gm cr cc cm ⟨s.pc, putR s.R d ((va + n) % 65536), s.C, s.M⟩ (putE e d ((va + n) % 65536)) (nx s)) | _ => True) ?mono (by kernel_rfl) (by kernel_rfl) rfl (by kernel_rfl) trivial ?step ?fin
 case mono =>
  intro i j v u u' hij hsz h hB
  rcases j with _ | _ | _ | _ | _ | _ | _ | _ | _ | _ | _ | _ | _ | _ | _ | _ | _ | j
  ·exact h
  ·exact h
  ·exact h
  ·exact h
  ·exact h
  ·exact h
  ·exact h
  ·exact h
  ·exact h
  ·exact h
  ·exact h
  ·exact h
  ·exact h
  ·exact h
  ·exact h
  ·exact h
  ·exact (by have hB2 : But [] u u' := (by have hx := hB; simp only [if_neg hij] at hx; exact hx); exact ⟨h.1, h.2.but hB2 (by simp) (by simp) (by simp) (by simp)⟩)
  ·trivial
 case step =>
  intro i o ho
  rcases i with _ | _ | _ | _ | _ | _ | _ | _ | _ | _ | _ | _ | _ | _ | _ | _ | _ | i
  ·cases ho
   intro fu act u hW hB hsz hL hdep
   replace hB := hB [] (fun j hj hd k hk => by
    by_cases xz : j = 16
    ·subst xz; exact (depT_no hd (by kernel_rfl)).elim
    rw [if_neg xz] at hk; cases hk)
   have x0 : act.tmps.getD 0 undef = (.pointer (some ⟨m, 0, none⟩) : Value) := (hL.2.2 0 (no_dst (by kernel_rfl))).trans rfl
   clear hdep hL
   refine wpOp_step rfl (fun K hK => ?_)
   go_simp
   exact hK _ _ ⟨_, rfl, (fun h => by cases h), (by first | rfl | (exact congrArg (Value.int .i64) (by rw [IntWalk.i64_left, IntWalk.wrap64_in _ (by omega)])) | simp), But.refl _ _, trivial⟩
  ·cases ho
   intro fu act u hW hB hsz hL hdep
   replace hB := hB [] (fun j hj hd k hk => by
    by_cases xz : j = 16
    ·subst xz; exact (depT_no hd (by kernel_rfl)).elim
    rw [if_neg xz] at hk; cases hk)
   have x3 : act.tmps.getD 3 undef = (.pointer (some ⟨X, 0, none⟩) : Value) := (hL.2.2 3 (no_dst (by kernel_rfl))).trans rfl
   clear hdep hL
   refine wpOp_step rfl (fun K hK => ?_)
   go_simp
   exact hK _ _ ⟨_, rfl, (fun h => by cases h), (by first | rfl | (exact congrArg (Value.int .i64) (by rw [IntWalk.i64_left, IntWalk.wrap64_in _ (by omega)])) | simp), But.refl _ _, trivial⟩
  ·cases ho
   intro fu act u hW hB hsz hL hdep
   replace hB := hB [] (fun j hj hd k hk => by
    by_cases xz : j = 16
    ·subst xz; exact (depT_no hd (by kernel_rfl)).elim
    rw [if_neg xz] at hk; cases hk)
   have e1 : act.tmps.getD 5 undef = (.pointer (some ⟨X, 1, none⟩) : Value) := hdep { on := 1, ground := .data } (by simp) rfl _ rfl
   clear hdep hL
   have c := (HX.out.but hB (by simp)).c1
   refine wpOp_step rfl (fun K hK => ?_)
   go_simp
   exact hK _ _ ⟨_, rfl, (fun h => by cases h), (by first | rfl | (exact congrArg (Value.int .i64) (by rw [IntWalk.i64_left, IntWalk.wrap64_in _ (by omega)])) | simp), But.refl _ _, trivial⟩
  ·cases ho
   intro fu act u hW hB hsz hL hdep
   replace hB := hB [] (fun j hj hd k hk => by
    by_cases xz : j = 16
    ·subst xz; exact (depT_no hd (by kernel_rfl)).elim
    rw [if_neg xz] at hk; cases hk)
   have x0 : act.tmps.getD 0 undef = (.pointer (some ⟨m, 0, none⟩) : Value) := (hL.2.2 0 (no_dst (by kernel_rfl))).trans rfl
   clear hdep hL
   refine wpOp_step rfl (fun K hK => ?_)
   go_simp
   exact hK _ _ ⟨_, rfl, (fun h => by cases h), (by first | rfl | (exact congrArg (Value.int .i64) (by rw [IntWalk.i64_left, IntWalk.wrap64_in _ (by omega)])) | simp), But.refl _ _, trivial⟩
  ·cases ho
   intro fu act u hW hB hsz hL hdep
   replace hB := hB [] (fun j hj hd k hk => by
    by_cases xz : j = 16
    ·subst xz; exact (depT_no hd (by kernel_rfl)).elim
    rw [if_neg xz] at hk; cases hk)
   have e3 : act.tmps.getD 7 undef = (.pointer (some ⟨m, 0, none⟩) : Value) := hdep { on := 3, ground := .data } (by simp) rfl _ rfl
   clear hdep hL
   refine wpOp_step rfl (fun K hK => ?_)
   go_simp
   exact hK _ _ ⟨_, rfl, (fun h => by cases h), (by first | rfl | (exact congrArg (Value.int .i64) (by rw [IntWalk.i64_left, IntWalk.wrap64_in _ (by omega)])) | simp), But.refl _ _, trivial⟩
  ·cases ho
   intro fu act u hW hB hsz hL hdep
   replace hB := hB [] (fun j hj hd k hk => by
    by_cases xz : j = 16
    ·subst xz; exact (depT_no hd (by kernel_rfl)).elim
    rw [if_neg xz] at hk; cases hk)
   have e4 : act.tmps.getD 8 undef = (.pointer (some ⟨m, 0, none⟩) : Value) := hdep { on := 4, ground := .data } (by simp) rfl _ rfl
   clear hdep hL
   refine wpOp_step rfl (fun K hK => ?_)
   go_simp
   exact hK _ _ ⟨_, rfl, (fun h => by cases h), (by first | rfl | (exact congrArg (Value.int .i64) (by rw [IntWalk.i64_left, IntWalk.wrap64_in _ (by omega)])) | simp), But.refl _ _, trivial⟩
  ·cases ho
   intro fu act u hW hB hsz hL hdep
   replace hB := hB [] (fun j hj hd k hk => by
    by_cases xz : j = 16
    ·subst xz; exact (depT_no hd (by kernel_rfl)).elim
    rw [if_neg xz] at hk; cases hk)
   have e5 : act.tmps.getD 9 undef = (.pointer (some ⟨m, 0, none⟩) : Value) := hdep { on := 5, ground := .data } (by simp) rfl _ rfl
   clear hdep hL
   refine wpOp_step rfl (fun K hK => ?_)
   go_simp
   exact hK _ _ ⟨_, rfl, (fun h => by cases h), (by first | rfl | (exact congrArg (Value.int .i64) (by rw [IntWalk.i64_left, IntWalk.wrap64_in _ (by omega)])) | simp), But.refl _ _, trivial⟩
  ·cases ho
   intro fu act u hW hB hsz hL hdep
   replace hB := hB [] (fun j hj hd k hk => by
    by_cases xz : j = 16
    ·subst xz; exact (depT_no hd (by kernel_rfl)).elim
    rw [if_neg xz] at hk; cases hk)
   have e6 : act.tmps.getD 10 undef = (.pointer (some ⟨m, 1, none⟩) : Value) := hdep { on := 6, ground := .data } (by simp) rfl _ rfl
   clear hdep hL
   have hm := HM.out.but hB (by simp) (by simp) (by simp) (by simp)
   have c := hm.cel 1 (by decide)
   simp only [mCells, List.getElem?_cons_succ, List.getElem?_cons_zero] at c
   clear hm
   refine wpOp_step rfl (fun K hK => ?_)
   go_simp
   exact hK _ _ ⟨_, rfl, (fun h => by cases h), (by first | rfl | (exact congrArg (Value.int .i64) (by rw [IntWalk.i64_left, IntWalk.wrap64_in _ (by omega)])) | simp), But.refl _ _, trivial⟩
  ·cases ho
   intro fu act u hW hB hsz hL hdep
   replace hB := hB [] (fun j hj hd k hk => by
    by_cases xz : j = 16
    ·subst xz; exact (depT_no hd (by kernel_rfl)).elim
    rw [if_neg xz] at hk; cases hk)
   have x3 : act.tmps.getD 3 undef = (.pointer (some ⟨X, 0, none⟩) : Value) := (hL.2.2 3 (no_dst (by kernel_rfl))).trans rfl
   clear hdep hL
   refine wpOp_step rfl (fun K hK => ?_)
   go_simp
   exact hK _ _ ⟨_, rfl, (fun h => by cases h), (by first | rfl | (exact congrArg (Value.int .i64) (by rw [IntWalk.i64_left, IntWalk.wrap64_in _ (by omega)])) | simp), But.refl _ _, trivial⟩
  ·cases ho
   intro fu act u hW hB hsz hL hdep
   replace hB := hB [] (fun j hj hd k hk => by
    by_cases xz : j = 16
    ·subst xz; exact (depT_no hd (by kernel_rfl)).elim
    rw [if_neg xz] at hk; cases hk)
   have e8 : act.tmps.getD 12 undef = (.pointer (some ⟨X, 2, none⟩) : Value) := hdep { on := 8, ground := .data } (by simp) rfl _ rfl
   clear hdep hL
   have c := (HX.out.but hB (by simp)).c2
   refine wpOp_step rfl (fun K hK => ?_)
   go_simp
   exact hK _ _ ⟨_, rfl, (fun h => by cases h), (by first | rfl | (exact congrArg (Value.int .i64) (by rw [IntWalk.i64_left, IntWalk.wrap64_in _ (by omega)])) | simp), But.refl _ _, trivial⟩
  ·cases ho
   intro fu act u hW hB hsz hL hdep
   replace hB := hB [] (fun j hj hd k hk => by
    by_cases xz : j = 16
    ·subst xz; exact (depT_no hd (by kernel_rfl)).elim
    rw [if_neg xz] at hk; cases hk)
   have e7 : act.tmps.getD 11 undef = (.slice (some ⟨gr, 0, none⟩) 8 cr : Value) := hdep { on := 7, ground := .data } (by simp) rfl _ rfl
   have e9 : act.tmps.getD 13 undef = (.int .i64 a : Value) := hdep { on := 9, ground := .data } (by simp) rfl _ rfl
   clear hdep hL
   have ix0 : 0 ≤ a := by omega
   have ix1 : a < 8 := by omega
   refine wpOp_step rfl (fun K hK => ?_)
   go_simp
   exact hK _ _ ⟨_, rfl, (fun h => by cases h), (by first | rfl | (exact congrArg (Value.int .i64) (by rw [IntWalk.i64_left, IntWalk.wrap64_in _ (by omega)])) | simp), But.refl _ _, trivial⟩
  ·cases ho
   intro fu act u hW hB hsz hL hdep
   replace hB := hB [] (fun j hj hd k hk => by
    by_cases xz : j = 16
    ·subst xz; exact (depT_no hd (by kernel_rfl)).elim
    rw [if_neg xz] at hk; cases hk)
   have e10 : act.tmps.getD 14 undef = (.pointer (some ⟨gr, a.toNat, none⟩) : Value) := hdep { on := 10, ground := .data } (by simp) rfl _ rfl
   clear hdep hL
   have hm := HM.out.but hB (by simp) (by simp) (by simp) (by simp)
   have c := hm.ow.R.cel (a.toNat) (by have h1 := HK.out.Rl; have h2 := HK.out.Cl; have h3 := HK.out.Ml; omega)
   clear hm
   rw [hva] at c
   refine wpOp_step rfl (fun K hK => ?_)
   go_simp
   exact hK _ _ ⟨_, rfl, (fun h => by cases h), (by first | rfl | (exact congrArg (Value.int .i64) (by rw [IntWalk.i64_left, IntWalk.wrap64_in _ (by omega)])) | simp), But.refl _ _, trivial⟩
  ·cases ho
   intro fu act u hW hB hsz hL hdep
   replace hB := hB [] (fun j hj hd k hk => by
    by_cases xz : j = 16
    ·subst xz; exact (depT_no hd (by kernel_rfl)).elim
    rw [if_neg xz] at hk; cases hk)
   have x3 : act.tmps.getD 3 undef = (.pointer (some ⟨X, 0, none⟩) : Value) := (hL.2.2 3 (no_dst (by kernel_rfl))).trans rfl
   clear hdep hL
   refine wpOp_step rfl (fun K hK => ?_)
   go_simp
   exact hK _ _ ⟨_, rfl, (fun h => by cases h), (by first | rfl | (exact congrArg (Value.int .i64) (by rw [IntWalk.i64_left, IntWalk.wrap64_in _ (by omega)])) | simp), But.refl _ _, trivial⟩
  ·cases ho
   intro fu act u hW hB hsz hL hdep
   replace hB := hB [] (fun j hj hd k hk => by
    by_cases xz : j = 16
    ·subst xz; exact (depT_no hd (by kernel_rfl)).elim
    rw [if_neg xz] at hk; cases hk)
   have e12 : act.tmps.getD 16 undef = (.pointer (some ⟨X, 5, none⟩) : Value) := hdep { on := 12, ground := .data } (by simp) rfl _ rfl
   clear hdep hL
   have c := (HX.out.but hB (by simp)).c5
   refine wpOp_step rfl (fun K hK => ?_)
   go_simp
   exact hK _ _ ⟨_, rfl, (fun h => by cases h), (by first | rfl | (exact congrArg (Value.int .i64) (by rw [IntWalk.i64_left, IntWalk.wrap64_in _ (by omega)])) | simp), But.refl _ _, trivial⟩
  ·cases ho
   intro fu act u hW hB hsz hL hdep
   replace hB := hB [] (fun j hj hd k hk => by
    by_cases xz : j = 16
    ·subst xz; exact (depT_no hd (by kernel_rfl)).elim
    rw [if_neg xz] at hk; cases hk)
   have e11 : act.tmps.getD 15 undef = (.int .i64 va : Value) := hdep { on := 11, ground := .data } (by simp) rfl _ rfl
   have e13 : act.tmps.getD 17 undef = (.int .i64 n : Value) := hdep { on := 13, ground := .data } (by simp) rfl _ rfl
   clear hdep hL
   refine wpOp_step rfl (fun K hK => ?_)
   go_simp
   exact hK _ _ ⟨_, rfl, (fun h => by cases h), (by first | rfl | (exact congrArg (Value.int .i64) (by rw [IntWalk.i64_left, IntWalk.wrap64_in _ (by omega)])) | simp), But.refl _ _, trivial⟩
  ·cases ho
   intro fu act u hW hB hsz hL hdep
   replace hB := hB [] (fun j hj hd k hk => by
    by_cases xz : j = 16
    ·subst xz; exact (depT_no hd (by kernel_rfl)).elim
    rw [if_neg xz] at hk; cases hk)
   have e14 : act.tmps.getD 18 undef = (.int .i64 (va + n) : Value) := hdep { on := 14, ground := .data } (by simp) rfl _ rfl
   have hdf := Lib.hid (show act.defers = [] from hL.1)
   clear hdep hL
   refine wpOp_step rfl (fun K hK => ?_)
   go_simp
   refine (impl_wrapped _ u (by omega) (by omega)).mono ?_
   rintro r u' ⟨rfl, rfl⟩
   go_simp
   exact hK _ _ ⟨_, rfl, (fun h => by cases h), rfl, But.refl _ _, trivial⟩
  ·cases ho
   intro fu act u hW hB hsz hL hdep
   replace hB := hB [] (fun j hj hd k hk => by
    rw [if_neg hj] at hk; cases hk)
   have e0 : act.tmps.getD 4 undef = (.pointer (some ⟨m, 0, none⟩) : Value) := hdep { on := 0, ground := .data } (by simp) rfl _ rfl
   have e2 : act.tmps.getD 6 undef = (.int .i64 d : Value) := hdep { on := 2, ground := .data } (by simp) rfl _ rfl
   have e15 : act.tmps.getD 19 undef = (.int .i64 ((va + n) % 65536) : Value) := hdep { on := 15, ground := .data } (by simp) rfl _ rfl
   have hdf := Lib.hid (show act.defers = [] from hL.1)
   clear hdep hL
   refine wpOp_step rfl (fun K hK => ?_)
   go_simp
   refine (impl_put u m gr gc gm cr cc cm s e (nx s) d ((va + n) % 65536) (HM.out.but hB (by simp) (by simp) (by simp) (by simp)) hR.out d0 d7).mono ?_
   rintro r u' ⟨rfl, hM', hB'⟩
   go_simp
   exact hK _ _ ⟨_, rfl, (fun h => by cases h), ⟨rfl, hM'⟩, hB', trivial⟩
  ·exact absurd ho (by simp)
 case fin =>
  intro act u hW hsz hB hL hsf
  replace hB := hB [m, gr] (fun j k hk => by
   by_cases yz : j = 16
   ·rw [if_pos yz] at hk; exact hk
   rw [if_neg yz] at hk
   cases hk)
  have d16 := hsf 16 _ rfl
  obtain ⟨ysl, ha, hy⟩ := hL.puts [4, 5, 6, 7, 8, 9, 10, 11, 12, 13, 14, 15, 16, 17, 18, 19, 20] (by kernel_rfl)
  clear hL hsf hy
  simp only [List.foldl, List.setIfInBounds_toArray, List.set_cons_succ, List.set_cons_zero] at ha
  subst ha
  obtain ⟨_, hM'⟩ := d16
  go_wp2_with fail
  (first | refine bodyPost_end (results_none rfl _ _ _) rfl ?_ | refine bodyPost_ret (results_none rfl _ _ _) rfl ?_)
  exact ⟨rfl, hM', (((But.of HF.out).trans (hB.up (fun k hk => by simp at hk ⊢; omega))))⟩
set_option maxRecDepth 8000 in
set_option maxHeartbeats 4000000 in
theorem ef_mul (u : World) (m gr gc gm cr cc cm : Nat) (s : St) (e : Ev) (d a b f n : Int) (h : Mx u m gr gc gm cr cc cm s e (nx s)) (hk : OkS s) (hi : iok 9 d a b f n = true) :
  Calls Tryd.prog 101 #[.pointer (some ⟨m, 0, none⟩), .agg #[.int .i64 9, .int .i64 d, .int .i64 a, .int .i64 b, .int .i64 f, .int .i64 n]] u (EfP (effS s e 9 d a b f n) m gr gc gm cr cc cm s e u) := by
 rw [eff_9]
 obtain ⟨⟨d0, d7⟩, ⟨a0, a7⟩, ⟨b0, b7⟩, _⟩ := sok_bd (sok_of hi)
 obtain ⟨n0, n1⟩ := num_bd (iok_num hi)
 obtain ⟨f0, f7⟩ := f_bd (iok_f hi)
 have hlm := h.lt
 have hnx : 0 ≤ nx s ∧ nx s < 65536 := by unfold nx; omega
 have hR := Lib.hid hk.Rl
 have HK := Lib.hid hk
 have qva := ok_get hk.R a.toNat
 have qvb := ok_get hk.R b.toNat
 have F0 := Fr.alloc u (.cells #[.int .i64 9, .int .i64 d, .int .i64 a, .int .i64 b, .int .i64 f, .int .i64 n] 48)
 have HM := Lib.hid (h.fr F0)
 have HX0 := Lib.hid (Box.new u 9 d a b f n 48)
 have HF := Lib.hid F0
 have ho := h.ow
 have lr := ho.R.lt
 have lc := ho.C.lt
 have lm := ho.M.lt
 clear h hk F0 ho
 obtain ⟨va, hva⟩ : ∃ x, s.R.getD a.toNat 0 = x := ⟨_, rfl⟩
 rw [hva] at qva
 obtain ⟨qva0, qva1⟩ := qva
 obtain ⟨vb, hvb⟩ : ∃ x, s.R.getD b.toNat 0 = x := ⟨_, rfl⟩
 rw [hvb] at qvb
 obtain ⟨qvb0, qvb1⟩ := qvb
 simp only [put, goto, rg, mm, hva, hvb]
 go_enter Tryd.func101, Tryd.ntmps101
 go_wp2_with fail
 generalize (u.alloc (.cells #[.int .i64 9, .int .i64 d, .int .i64 a, .int .i64 b, .int .i64 f, .int .i64 n] 48)) = u0 at *
 have hz := HF.out.size
 have hXl := HX0.out.lt
 have HX := Lib.hid HX0.out
 clear HX0
 generalize hXe : u.heap.size = X at *
 refine wp_region_lots2 27 (fun i => if i = 22 then [m, gr] else []) (fun _ _ => True) (fun i v u => match i with | 0 => v = .pointer (some ⟨m, 0, none⟩) | 1 => v = .pointer (some ⟨X, 1, none⟩) | 2 => v = .int .i64 d | 3 => v = .pointer (some ⟨m, 0, none⟩) | 4 => v = .pointer (some ⟨m, 0, none⟩) | 5 => v = .pointer (some ⟨m, 0, none⟩) | 6 => v = .pointer (some ⟨m, 1, none⟩) | 7 => v = .slice (some ⟨gr, 0, none⟩) 8 cr | 8 => v = .pointer (some ⟨X, 2, none⟩) | 9 => v = .int .i64 a | 10 => v = .pointer (some ⟨gr, a.toNat, none⟩) | 11 => v = .int .i64 va | 12 => v = .pointer (some ⟨m, 0, none⟩) | 13 => v = .pointer (some ⟨m, 0, none⟩) | 14 => v = .pointer (some ⟨m, 0, none⟩) | 15 => v = .pointer (some ⟨m, 1, none⟩) | 16 => v = .slice (some ⟨gr, 0, none⟩) 8 cr | 17 => v = .pointer (some ⟨X, 3, none⟩) | 18 => v = .int .i64 b | 19 => v = .pointer (some ⟨gr, b.toNat, none⟩) | 20 => v = .int .i64 vb | 21 => v = .int .i64 (mulD va vb) | 22 => (v = .tuple #[] ∧ Mx u m gr gc gm cr cc cm ⟨s.pc, putR s.R d (mulD va vb), s.C, s.M⟩ (putE e d (mulD va vb)) (nx s)) | _ => True) ?mono (by kernel_rfl) (by kernel_rfl) rfl (by kernel_rfl) trivial ?step ?fin
 case mono =>
  intro i j v u u' hij hsz h hB
  rcases j with _ | _ | _ | _ | _ | _ | _ | _ | _ | _ | _ | _ | _ | _ | _ | _ | _ | _ | _ | _ | _ | _ | _ | j
  ·exact h
  ·exact h
  ·exact h
  ·exact h
  ·exact h
  ·exact h
  ·exact h
  ·exact h
  ·exact h
  ·exact h
  ·exact h
  ·exact h
  ·exact h
  ·exact h
  ·exact h
  ·exact h
  ·exact h
  ·exact h
  ·exact h
  ·exact h
  ·exact h
  ·exact h
  ·exact (by have hB2 : But [] u u' := (by have hx := hB; simp only [if_neg hij] at hx; exact hx); exact ⟨h.1, h.2.but hB2 (by simp) (by simp) (by simp) (by simp)⟩)
  ·trivial
 case step =>
  intro i o ho
  rcases i with _ | _ | _ | _ | _ | _ | _ | _ | _ | _ | _ | _ | _ | _ | _ | _ | _ | _ | _ | _ | _ | _ | _ | i
  ·cases ho
   intro fu act u hW hB hsz hL hdep
   replace hB := hB [] (fun j hj hd k hk => by
    by_cases xz : j = 22
    ·subst xz; exact (depT_no hd (by kernel_rfl)).elim
    rw [if_neg xz] at hk; cases hk)
   have x0 : act.tmps.getD 0 undef = (.pointer (some ⟨m, 0, none⟩) : Value) := (hL.2.2 0 (no_dst (by kernel_rfl))).trans rfl
   clear hdep hL
   refine wpOp_step rfl (fun K hK => ?_)
   go_simp
   exact hK _ _ ⟨_, rfl, (fun h => by cases h), (by first | rfl | (exact congrArg (Value.int .i64) (by rw [IntWalk.i64_left, IntWalk.wrap64_in _ (by omega)])) | simp), But.refl _ _, trivial⟩
  ·cases ho
   intro fu act u hW hB hsz hL hdep
   replace hB := hB [] (fun j hj hd k hk => by
    by_cases xz : j = 22
    ·subst xz; exact (depT_no hd (by kernel_rfl)).elim
    rw [if_neg xz] at hk; cases hk)
   have x3 : act.tmps.getD 3 undef = (.pointer (some ⟨X, 0, none⟩) : Value) := (hL.2.2 3 (no_dst (by kernel_rfl))).trans rfl
   clear hdep hL
   refine wpOp_step rfl (fun K hK => ?_)
   go_simp
   exact hK _ _ ⟨_, rfl, (fun h => by cases h), (by first | rfl | (exact congrArg (Value.int .i64) (by rw [IntWalk.i64_left, IntWalk.wrap64_in _ (by omega)])) | simp), But.refl _ _, trivial⟩
  ·cases ho
   intro fu act u hW hB hsz hL hdep
   replace hB := hB [] (fun j hj hd k hk => by
    by_cases xz : j = 22
    ·subst xz; exact (depT_no hd (by kernel_rfl)).elim
    rw [if_neg xz] at hk; cases hk)
   have e1 : act.tmps.getD 5 undef = (.pointer (some ⟨X, 1, none⟩) : Value) := hdep { on := 1, ground := .data } (by simp) rfl _ rfl
   clear hdep hL
   have c := (HX.out.but hB (by simp)).c1
   refine wpOp_step rfl (fun K hK => ?_)
   go_simp
   exact hK _ _ ⟨_, rfl, (fun h => by cases h), (by first | rfl | (exact congrArg (Value.int .i64) (by rw [IntWalk.i64_left, IntWalk.wrap64_in _ (by omega)])) | simp), But.refl _ _, trivial⟩
  ·cases ho
   intro fu act u hW hB hsz hL hdep
   replace hB := hB [] (fun j hj hd k hk => by
    by_cases xz : j = 22
    ·subst xz; exact (depT_no hd (by kernel_rfl)).elim
    rw [if_neg xz] at hk; cases hk)
   have x0 : act.tmps.getD 0 undef = (.pointer (some ⟨m, 0, none⟩) : Value) := (hL.2.2 0 (no_dst (by kernel_rfl))).trans rfl
   clear hdep hL
   refine wpOp_step rfl (fun K hK => ?_)
   go_simp
   exact hK _ _ ⟨_, rfl, (fun h => by cases h), (by first | rfl | (exact congrArg (Value.int .i64) (by rw [IntWalk.i64_left, IntWalk.wrap64_in _ (by omega)])) | simp), But.refl _ _, trivial⟩
  ·cases ho
   intro fu act u hW hB hsz hL hdep
   replace hB := hB [] (fun j hj hd k hk => by
    by_cases xz : j = 22
    ·subst xz; exact (depT_no hd (by kernel_rfl)).elim
    rw [if_neg xz] at hk; cases hk)
   have e3 : act.tmps.getD 7 undef = (.pointer (some ⟨m, 0, none⟩) : Value) := hdep { on := 3, ground := .data } (by simp) rfl _ rfl
   clear hdep hL
   refine wpOp_step rfl (fun K hK => ?_)
   go_simp
   exact hK _ _ ⟨_, rfl, (fun h => by cases h), (by first | rfl | (exact congrArg (Value.int .i64) (by rw [IntWalk.i64_left, IntWalk.wrap64_in _ (by omega)])) | simp), But.refl _ _, trivial⟩
  ·cases ho
   intro fu act u hW hB hsz hL hdep
   replace hB := hB [] (fun j hj hd k hk => by
    by_cases xz : j = 22
    ·subst xz; exact (depT_no hd (by kernel_rfl)).elim
    rw [if_neg xz] at hk; cases hk)
   have e4 : act.tmps.getD 8 undef = (.pointer (some ⟨m, 0, none⟩) : Value) := hdep { on := 4, ground := .data } (by simp) rfl _ rfl
   clear hdep hL
   refine wpOp_step rfl (fun K hK => ?_)
   go_simp
   exact hK _ _ ⟨_, rfl, (fun h => by cases h), (by first | rfl | (exact congrArg (Value.int .i64) (by rw [IntWalk.i64_left, IntWalk.wrap64_in _ (by omega)])) | simp), But.refl _ _, trivial⟩
  ·cases ho
   intro fu act u hW hB hsz hL hdep
   replace hB := hB [] (fun j hj hd k hk => by
    by_cases xz : j = 22
    ·subst xz; exact (depT_no hd (by kernel_rfl)).elim
    rw [if_neg xz] at hk; cases hk)
   have e5 : act.tmps.getD 9 undef = (.pointer (some ⟨m, 0, none⟩) : Value) := hdep { on := 5, ground := .data } (by simp) rfl _ rfl
   clear hdep hL
   refine wpOp_step rfl (fun K hK => ?_)
   go_simp
   exact hK _ _ ⟨_, rfl, (fun h => by cases h), (by first | rfl | (exact congrArg (Value.int .i64) (by rw [IntWalk.i64_left, IntWalk.wrap64_in _ (by omega)])) | simp), But.refl _ _, trivial⟩
  ·cases ho
   intro fu act u hW hB hsz hL hdep
   replace hB := hB [] (fun j hj hd k hk => by
    by_cases xz : j = 22
    ·subst xz; exact (depT_no hd (by kernel_rfl)).elim
    rw [if_neg xz] at hk; cases hk)
   have e6 : act.tmps.getD 10 undef = (.pointer (some ⟨m, 1, none⟩) : Value) := hdep { on := 6, ground := .data } (by simp) rfl _ rfl
   clear hdep hL
   have hm := HM.out.but hB (by simp) (by simp) (by simp) (by simp)
   have c := hm.cel 1 (by decide)
   simp only [mCells, List.getElem?_cons_succ, List.getElem?_cons_zero] at c
   clear hm
   refine wpOp_step rfl (fun K hK => ?_)
   go_simp
   exact hK _ _ ⟨_, rfl, (fun h => by cases h), (by first | rfl | (exact congrArg (Value.int .i64) (by rw [IntWalk.i64_left, IntWalk.wrap64_in _ (by omega)])) | simp), But.refl _ _, trivial⟩
  ·cases ho
   intro fu act u hW hB hsz hL hdep
   replace hB := hB [] (fun j hj hd k hk => by
    by_cases xz : j = 22
    ·subst xz; exact (depT_no hd (by kernel_rfl)).elim
    rw [if_neg xz] at hk; cases hk)
   have x3 : act.tmps.getD 3 undef = (.pointer (some ⟨X, 0, none⟩) : Value) := (hL.2.2 3 (no_dst (by kernel_rfl))).trans rfl
   clear hdep hL
   refine wpOp_step rfl (fun K hK => ?_)
   go_simp
   exact hK _ _ ⟨_, rfl, (fun h => by cases h), (by first | rfl | (exact congrArg (Value.int .i64) (by rw [IntWalk.i64_left, IntWalk.wrap64_in _ (by omega)])) | simp), But.refl _ _, trivial⟩
  ·cases ho
   intro fu act u hW hB hsz hL hdep
   replace hB := hB [] (fun j hj hd k hk => by
    by_cases xz : j = 22
    ·subst xz; exact (depT_no hd (by kernel_rfl)).elim
    rw [if_neg xz] at hk; cases hk)
   have e8 : act.tmps.getD 12 undef = (.pointer (some ⟨X, 2, none⟩) : Value) := hdep { on := 8, ground := .data } (by simp) rfl _ rfl
   clear hdep hL
   have c := (HX.out.but hB (by simp)).c2
   refine wpOp_step rfl (fun K hK => ?_)
   go_simp
   exact hK _ _ ⟨_, rfl, (fun h => by cases h), (by first | rfl | (exact congrArg (Value.int .i64) (by rw [IntWalk.i64_left, IntWalk.wrap64_in _ (by omega)])) | simp), But.refl _ _, trivial⟩
  ·cases ho
   intro fu act u hW hB hsz hL hdep
   replace hB := hB [] (fun j hj hd k hk => by
    by_cases xz : j = 22
    ·subst xz; exact (depT_no hd (by kernel_rfl)).elim
    rw [if_neg xz] at hk; cases hk)
   have e7 : act.tmps.getD 11 undef = (.slice (some ⟨gr, 0, none⟩) 8 cr : Value) := hdep { on := 7, ground := .data } (by simp) rfl _ rfl
   have e9 : act.tmps.getD 13 undef = (.int .i64 a : Value) := hdep { on := 9, ground := .data } (by simp) rfl _ rfl
   clear hdep hL
   have ix0 : 0 ≤ a := by omega
   have ix1 : a < 8 := by omega
   refine wpOp_step rfl (fun K hK => ?_)
   go_simp
   exact hK _ _ ⟨_, rfl, (fun h => by cases h), (by first | rfl | (exact congrArg (Value.int .i64) (by rw [IntWalk.i64_left, IntWalk.wrap64_in _ (by omega)])) | simp), But.refl _ _, trivial⟩
  ·cases ho
   intro fu act u hW hB hsz hL hdep
   replace hB := hB [] (fun j hj hd k hk => by
    by_cases xz : j = 22
    ·subst xz; exact (depT_no hd (by kernel_rfl)).elim
    rw [if_neg xz] at hk; cases hk)
   have e10 : act.tmps.getD 14 undef = (.pointer (some ⟨gr, a.toNat, none⟩) : Value) := hdep { on := 10, ground := .data } (by simp) rfl _ rfl
   clear hdep hL
   have hm := HM.out.but hB (by simp) (by simp) (by simp) (by simp)
   have c := hm.ow.R.cel (a.toNat) (by have h1 := HK.out.Rl; have h2 := HK.out.Cl; have h3 := HK.out.Ml; omega)
   clear hm
   rw [hva] at c
   refine wpOp_step rfl (fun K hK => ?_)
   go_simp
   exact hK _ _ ⟨_, rfl, (fun h => by cases h), (by first | rfl | (exact congrArg (Value.int .i64) (by rw [IntWalk.i64_left, IntWalk.wrap64_in _ (by omega)])) | simp), But.refl _ _, trivial⟩
  ·cases ho
   intro fu act u hW hB hsz hL hdep
   replace hB := hB [] (fun j hj hd k hk => by
    by_cases xz : j = 22
    ·subst xz; exact (depT_no hd (by kernel_rfl)).elim
    rw [if_neg xz] at hk; cases hk)
   have x0 : act.tmps.getD 0 undef = (.pointer (some ⟨m, 0, none⟩) : Value) := (hL.2.2 0 (no_dst (by kernel_rfl))).trans rfl
   clear hdep hL
   refine wpOp_step rfl (fun K hK => ?_)
   go_simp
   exact hK _ _ ⟨_, rfl, (fun h => by cases h), (by first | rfl | (exact congrArg (Value.int .i64) (by rw [IntWalk.i64_left, IntWalk.wrap64_in _ (by omega)])) | simp), But.refl _ _, trivial⟩
  ·cases ho
   intro fu act u hW hB hsz hL hdep
   replace hB := hB [] (fun j hj hd k hk => by
    by_cases xz : j = 22
    ·subst xz; exact (depT_no hd (by kernel_rfl)).elim
    rw [if_neg xz] at hk; cases hk)
   have e12 : act.tmps.getD 16 undef = (.pointer (some ⟨m, 0, none⟩) : Value) := hdep { on := 12, ground := .data } (by simp) rfl _ rfl
   clear hdep hL
   refine wpOp_step rfl (fun K hK => ?_)
   go_simp
   exact hK _ _ ⟨_, rfl, (fun h => by cases h), (by first | rfl | (exact congrArg (Value.int .i64) (by rw [IntWalk.i64_left, IntWalk.wrap64_in _ (by omega)])) | simp), But.refl _ _, trivial⟩
  ·cases ho
   intro fu act u hW hB hsz hL hdep
   replace hB := hB [] (fun j hj hd k hk => by
    by_cases xz : j = 22
    ·subst xz; exact (depT_no hd (by kernel_rfl)).elim
    rw [if_neg xz] at hk; cases hk)
   have e13 : act.tmps.getD 17 undef = (.pointer (some ⟨m, 0, none⟩) : Value) := hdep { on := 13, ground := .data } (by simp) rfl _ rfl
   clear hdep hL
   refine wpOp_step rfl (fun K hK => ?_)
   go_simp
   exact hK _ _ ⟨_, rfl, (fun h => by cases h), (by first | rfl | (exact congrArg (Value.int .i64) (by rw [IntWalk.i64_left, IntWalk.wrap64_in _ (by omega)])) | simp), But.refl _ _, trivial⟩
  ·cases ho
   intro fu act u hW hB hsz hL hdep
   replace hB := hB [] (fun j hj hd k hk => by
    by_cases xz : j = 22
    ·subst xz; exact (depT_no hd (by kernel_rfl)).elim
    rw [if_neg xz] at hk; cases hk)
   have e14 : act.tmps.getD 18 undef = (.pointer (some ⟨m, 0, none⟩) : Value) := hdep { on := 14, ground := .data } (by simp) rfl _ rfl
   clear hdep hL
   refine wpOp_step rfl (fun K hK => ?_)
   go_simp
   exact hK _ _ ⟨_, rfl, (fun h => by cases h), (by first | rfl | (exact congrArg (Value.int .i64) (by rw [IntWalk.i64_left, IntWalk.wrap64_in _ (by omega)])) | simp), But.refl _ _, trivial⟩
  ·cases ho
   intro fu act u hW hB hsz hL hdep
   replace hB := hB [] (fun j hj hd k hk => by
    by_cases xz : j = 22
    ·subst xz; exact (depT_no hd (by kernel_rfl)).elim
    rw [if_neg xz] at hk; cases hk)
   have e15 : act.tmps.getD 19 undef = (.pointer (some ⟨m, 1, none⟩) : Value) := hdep { on := 15, ground := .data } (by simp) rfl _ rfl
   clear hdep hL
   have hm := HM.out.but hB (by simp) (by simp) (by simp) (by simp)
   have c := hm.cel 1 (by decide)
   simp only [mCells, List.getElem?_cons_succ, List.getElem?_cons_zero] at c
   clear hm
   refine wpOp_step rfl (fun K hK => ?_)
   go_simp
   exact hK _ _ ⟨_, rfl, (fun h => by cases h), (by first | rfl | (exact congrArg (Value.int .i64) (by rw [IntWalk.i64_left, IntWalk.wrap64_in _ (by omega)])) | simp), But.refl _ _, trivial⟩
  ·cases ho
   intro fu act u hW hB hsz hL hdep
   replace hB := hB [] (fun j hj hd k hk => by
    by_cases xz : j = 22
    ·subst xz; exact (depT_no hd (by kernel_rfl)).elim
    rw [if_neg xz] at hk; cases hk)
   have x3 : act.tmps.getD 3 undef = (.pointer (some ⟨X, 0, none⟩) : Value) := (hL.2.2 3 (no_dst (by kernel_rfl))).trans rfl
   clear hdep hL
   refine wpOp_step rfl (fun K hK => ?_)
   go_simp
   exact hK _ _ ⟨_, rfl, (fun h => by cases h), (by first | rfl | (exact congrArg (Value.int .i64) (by rw [IntWalk.i64_left, IntWalk.wrap64_in _ (by omega)])) | simp), But.refl _ _, trivial⟩
  ·cases ho
   intro fu act u hW hB hsz hL hdep
   replace hB := hB [] (fun j hj hd k hk => by
    by_cases xz : j = 22
    ·subst xz; exact (depT_no hd (by kernel_rfl)).elim
    rw [if_neg xz] at hk; cases hk)
   have e17 : act.tmps.getD 21 undef = (.pointer (some ⟨X, 3, none⟩) : Value) := hdep { on := 17, ground := .data } (by simp) rfl _ rfl
   clear hdep hL
   have c := (HX.out.but hB (by simp)).c3
   refine wpOp_step rfl (fun K hK => ?_)
   go_simp
   exact hK _ _ ⟨_, rfl, (fun h => by cases h), (by first | rfl | (exact congrArg (Value.int .i64) (by rw [IntWalk.i64_left, IntWalk.wrap64_in _ (by omega)])) | simp), But.refl _ _, trivial⟩
  ·cases ho
   intro fu act u hW hB hsz hL hdep
   replace hB := hB [] (fun j hj hd k hk => by
    by_cases xz : j = 22
    ·subst xz; exact (depT_no hd (by kernel_rfl)).elim
    rw [if_neg xz] at hk; cases hk)
   have e16 : act.tmps.getD 20 undef = (.slice (some ⟨gr, 0, none⟩) 8 cr : Value) := hdep { on := 16, ground := .data } (by simp) rfl _ rfl
   have e18 : act.tmps.getD 22 undef = (.int .i64 b : Value) := hdep { on := 18, ground := .data } (by simp) rfl _ rfl
   clear hdep hL
   have ix0 : 0 ≤ b := by omega
   have ix1 : b < 8 := by omega
   refine wpOp_step rfl (fun K hK => ?_)
   go_simp
   exact hK _ _ ⟨_, rfl, (fun h => by cases h), (by first | rfl | (exact congrArg (Value.int .i64) (by rw [IntWalk.i64_left, IntWalk.wrap64_in _ (by omega)])) | simp), But.refl _ _, trivial⟩
  ·cases ho
   intro fu act u hW hB hsz hL hdep
   replace hB := hB [] (fun j hj hd k hk => by
    by_cases xz : j = 22
    ·subst xz; exact (depT_no hd (by kernel_rfl)).elim
    rw [if_neg xz] at hk; cases hk)
   have e19 : act.tmps.getD 23 undef = (.pointer (some ⟨gr, b.toNat, none⟩) : Value) := hdep { on := 19, ground := .data } (by simp) rfl _ rfl
   clear hdep hL
   have hm := HM.out.but hB (by simp) (by simp) (by simp) (by simp)
   have c := hm.ow.R.cel (b.toNat) (by have h1 := HK.out.Rl; have h2 := HK.out.Cl; have h3 := HK.out.Ml; omega)
   clear hm
   rw [hvb] at c
   refine wpOp_step rfl (fun K hK => ?_)
   go_simp
   exact hK _ _ ⟨_, rfl, (fun h => by cases h), (by first | rfl | (exact congrArg (Value.int .i64) (by rw [IntWalk.i64_left, IntWalk.wrap64_in _ (by omega)])) | simp), But.refl _ _, trivial⟩
  ·cases ho
   intro fu act u hW hB hsz hL hdep
   replace hB := hB [] (fun j hj hd k hk => by
    by_cases xz : j = 22
    ·subst xz; exact (depT_no hd (by kernel_rfl)).elim
    rw [if_neg xz] at hk; cases hk)
   have e11 : act.tmps.getD 15 undef = (.int .i64 va : Value) := hdep { on := 11, ground := .data } (by simp) rfl _ rfl
   have e20 : act.tmps.getD 24 undef = (.int .i64 vb : Value) := hdep { on := 20, ground := .data } (by simp) rfl _ rfl
   have hdf := Lib.hid (show act.defers = [] from hL.1)
   clear hdep hL
   refine wpOp_step rfl (fun K hK => ?_)
   go_simp
   refine (impl_MulDo _ _ u).mono ?_
   rintro r u' ⟨rfl, rfl⟩
   go_simp
   exact hK _ _ ⟨_, rfl, (fun h => by cases h), rfl, But.refl _ _, trivial⟩
  ·cases ho
   intro fu act u hW hB hsz hL hdep
   replace hB := hB [] (fun j hj hd k hk => by
    rw [if_neg hj] at hk; cases hk)
   have e0 : act.tmps.getD 4 undef = (.pointer (some ⟨m, 0, none⟩) : Value) := hdep { on := 0, ground := .data } (by simp) rfl _ rfl
   have e2 : act.tmps.getD 6 undef = (.int .i64 d : Value) := hdep { on := 2, ground := .data } (by simp) rfl _ rfl
   have e21 : act.tmps.getD 25 undef = (.int .i64 (mulD va vb) : Value) := hdep { on := 21, ground := .data } (by simp) rfl _ rfl
   have hdf := Lib.hid (show act.defers = [] from hL.1)
   clear hdep hL
   refine wpOp_step rfl (fun K hK => ?_)
   go_simp
   refine (impl_put u m gr gc gm cr cc cm s e (nx s) d (mulD va vb) (HM.out.but hB (by simp) (by simp) (by simp) (by simp)) hR.out d0 d7).mono ?_
   rintro r u' ⟨rfl, hM', hB'⟩
   go_simp
   exact hK _ _ ⟨_, rfl, (fun h => by cases h), ⟨rfl, hM'⟩, hB', trivial⟩
  ·exact absurd ho (by simp)
 case fin =>
  intro act u hW hsz hB hL hsf
  replace hB := hB [m, gr] (fun j k hk => by
   by_cases yz : j = 22
   ·rw [if_pos yz] at hk; exact hk
   rw [if_neg yz] at hk
   cases hk)
  have d22 := hsf 22 _ rfl
  obtain ⟨ysl, ha, hy⟩ := hL.puts [4, 5, 6, 7, 8, 9, 10, 11, 12, 13, 14, 15, 16, 17, 18, 19, 20, 21, 22, 23, 24, 25, 26] (by kernel_rfl)
  clear hL hsf hy
  simp only [List.foldl, List.setIfInBounds_toArray, List.set_cons_succ, List.set_cons_zero] at ha
  subst ha
  obtain ⟨_, hM'⟩ := d22
  go_wp2_with fail
  (first | refine bodyPost_end (results_none rfl _ _ _) rfl ?_ | refine bodyPost_ret (results_none rfl _ _ _) rfl ?_)
  exact ⟨rfl, hM', (((But.of HF.out).trans (hB.up (fun k hk => by simp at hk ⊢; omega))))⟩
set_option maxRecDepth 8000 in
set_option maxHeartbeats 4000000 in
theorem ef_lui (u : World) (m gr gc gm cr cc cm : Nat) (s : St) (e : Ev) (d a b f n : Int) (h : Mx u m gr gc gm cr cc cm s e (nx s)) (hk : OkS s) (hi : iok 2 d a b f n = true) :
  Calls Tryd.prog 94 #[.pointer (some ⟨m, 0, none⟩), .agg #[.int .i64 2, .int .i64 d, .int .i64 a, .int .i64 b, .int .i64 f, .int .i64 n]] u (EfP (effS s e 2 d a b f n) m gr gc gm cr cc cm s e u) := by
 rw [eff_2]
 obtain ⟨⟨d0, d7⟩, ⟨a0, a7⟩, ⟨b0, b7⟩, _⟩ := sok_bd (sok_of hi)
 obtain ⟨n0, n1⟩ := num_bd (iok_num hi)
 obtain ⟨f0, f7⟩ := f_bd (iok_f hi)
 have hlm := h.lt
 have hnx : 0 ≤ nx s ∧ nx s < 65536 := by unfold nx; omega
 have hR := Lib.hid hk.Rl
 have HK := Lib.hid hk
 have F0 := Fr.alloc u (.cells #[.int .i64 2, .int .i64 d, .int .i64 a, .int .i64 b, .int .i64 f, .int .i64 n] 48)
 have HM := Lib.hid (h.fr F0)
 have HX0 := Lib.hid (Box.new u 2 d a b f n 48)
 have HF := Lib.hid F0
 have ho := h.ow
 have lr := ho.R.lt
 have lc := ho.C.lt
 have lm := ho.M.lt
 clear h hk F0 ho
 go_enter Tryd.func94, Tryd.ntmps94
 go_wp2_with fail
 generalize (u.alloc (.cells #[.int .i64 2, .int .i64 d, .int .i64 a, .int .i64 b, .int .i64 f, .int .i64 n] 48)) = u0 at *
 have hz := HF.out.size
 have hXl := HX0.out.lt
 have HX := Lib.hid HX0.out
 clear HX0
 generalize hXe : u.heap.size = X at *
 simp only [put]
 obtain ⟨x0, x1, x2, x3, x4, x5⟩ := HX.out
 go_wp2_with fail
 refine (impl_put u0 m gr gc gm cr cc cm s e (nx s) d (n * 128) HM.out hR.out d0 d7).mono ?_
 rintro r u' ⟨rfl, hM', hB'⟩
 go_wp2_with fail
 (first | refine bodyPost_end (results_none rfl _ _ _) rfl ?_ | refine bodyPost_ret (results_none rfl _ _ _) rfl ?_)
 exact ⟨rfl, hM', ((But.of HF.out).trans (hB'.up (fun k hk => by simp at hk ⊢; omega)))⟩
set_option maxRecDepth 8000 in
set_option maxHeartbeats 4000000 in
theorem ef_wait (u : World) (m gr gc gm cr cc cm : Nat) (s : St) (e : Ev) (d a b f n : Int) (h : Mx u m gr gc gm cr cc cm s e (nx s)) (hk : OkS s) (hi : iok 11 d a b f n = true) :
  Calls Tryd.prog 103 #[.pointer (some ⟨m, 0, none⟩), .agg #[.int .i64 11, .int .i64 d, .int .i64 a, .int .i64 b, .int .i64 f, .int .i64 n]] u (EfP (effS s e 11 d a b f n) m gr gc gm cr cc cm s e u) := by
 rw [eff_11]
 obtain ⟨⟨d0, d7⟩, ⟨a0, a7⟩, ⟨b0, b7⟩, _⟩ := sok_bd (sok_of hi)
 obtain ⟨n0, n1⟩ := num_bd (iok_num hi)
 obtain ⟨f0, f7⟩ := f_bd (iok_f hi)
 have hlm := h.lt
 have hnx : 0 ≤ nx s ∧ nx s < 65536 := by unfold nx; omega
 have hR := Lib.hid hk.Rl
 have HK := Lib.hid hk
 have F0 := Fr.alloc u (.cells #[.int .i64 11, .int .i64 d, .int .i64 a, .int .i64 b, .int .i64 f, .int .i64 n] 48)
 have HM := Lib.hid (h.fr F0)
 have HX0 := Lib.hid (Box.new u 11 d a b f n 48)
 have HF := Lib.hid F0
 have ho := h.ow
 have lr := ho.R.lt
 have lc := ho.C.lt
 have lm := ho.M.lt
 clear h hk F0 ho
 go_enter Tryd.func103, Tryd.ntmps103
 go_wp2_with fail
 generalize (u.alloc (.cells #[.int .i64 11, .int .i64 d, .int .i64 a, .int .i64 b, .int .i64 f, .int .i64 n] 48)) = u0 at *
 have hz := HF.out.size
 have hXl := HX0.out.lt
 have HX := Lib.hid HX0.out
 clear HX0
 generalize hXe : u.heap.size = X at *
 simp only [goto]
 (first | refine bodyPost_end (results_none rfl _ _ _) rfl ?_ | refine bodyPost_ret (results_none rfl _ _ _) rfl ?_)
 exact ⟨rfl, HM.out, But.of HF.out⟩
set_option maxRecDepth 8000 in
set_option maxHeartbeats 4000000 in
theorem ef_sys (u : World) (m gr gc gm cr cc cm : Nat) (s : St) (e : Ev) (d a b f n : Int) (h : Mx u m gr gc gm cr cc cm s e (nx s)) (hk : OkS s) (hi : iok 12 d a b f n = true) :
  Calls Tryd.prog 104 #[.pointer (some ⟨m, 0, none⟩), .agg #[.int .i64 12, .int .i64 d, .int .i64 a, .int .i64 b, .int .i64 f, .int .i64 n]] u (EfP (effS s e 12 d a b f n) m gr gc gm cr cc cm s e u) := by
 rw [eff_12]
 obtain ⟨⟨d0, d7⟩, ⟨a0, a7⟩, ⟨b0, b7⟩, _⟩ := sok_bd (sok_of hi)
 obtain ⟨n0, n1⟩ := num_bd (iok_num hi)
 obtain ⟨f0, f7⟩ := f_bd (iok_f hi)
 have hlm := h.lt
 have hnx : 0 ≤ nx s ∧ nx s < 65536 := by unfold nx; omega
 have hR := Lib.hid hk.Rl
 have HK := Lib.hid hk
 have F0 := Fr.alloc u (.cells #[.int .i64 12, .int .i64 d, .int .i64 a, .int .i64 b, .int .i64 f, .int .i64 n] 48)
 have HM := Lib.hid (h.fr F0)
 have HX0 := Lib.hid (Box.new u 12 d a b f n 48)
 have HF := Lib.hid F0
 have ho := h.ow
 have lr := ho.R.lt
 have lc := ho.C.lt
 have lm := ho.M.lt
 clear h hk F0 ho
 go_enter Tryd.func104, Tryd.ntmps104
 go_wp2_with fail
 generalize (u.alloc (.cells #[.int .i64 12, .int .i64 d, .int .i64 a, .int .i64 b, .int .i64 f, .int .i64 n] 48)) = u0 at *
 have hz := HF.out.size
 have hXl := HX0.out.lt
 have HX := Lib.hid HX0.out
 clear HX0
 generalize hXe : u.heap.size = X at *
 obtain ⟨x0, x1, x2, x3, x4, x5⟩ := HX.out
 go_wp2_with fail
 exact ⟨rfl, rfl, HM.out, But.of HF.out⟩

end Go.Proofs.YtbjapncfgancoaaDoor
