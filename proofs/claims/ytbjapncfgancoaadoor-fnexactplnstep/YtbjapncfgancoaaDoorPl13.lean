/- The model's l4Do, whole. -/
import Derived.Test.YtbjapncfgancoaaDoorPl12
namespace Go.Proofs.YtbjapncfgancoaaDoor
open Go.RowKit
set_option linter.unusedVariables false
set_option linter.unusedSimpArgs false
def fixE (e : Ev) : Ev := if e.d = 0 then { e with v := 0 } else e
theorem fix_id {e : Ev} (hd : e.d = 0) (hv : e.v = 0) : fixE e = e := by
 unfold fixE
 rw [if_pos hd]
 cases e
 simp at hv
 simp [hv]
theorem fix_put {e e1 : Ev} {d m : Int} (h1 : e1 = { e with d := d, v := m }) (hd : e.d = 0) (hv : e.v = 0) : fixE e1 = putE e d m := by
 subst h1
 unfold fixE putE
 by_cases h : d = 0
 ·subst h
  simp only [if_true, ite_true, reduceIte]
  cases e
  simp at hd hv
  simp [hd, hv]
 ·simp only [if_neg h]
theorem far_eq (s : St) (n : Int) : (nx s + n) % 65536 = (s.pc + 1 + n) % 65536 := by
 unfold nx
 rw [Int.emod_add_emod]
abbrev genK (k : Int) : Prop := k ≠ 3 ∧ k ≠ 4 ∧ k ≠ 10 ∧ k ≠ 13 ∧ k ≠ 14 ∧ k ≠ 15 ∧ k ≠ 12
theorem iok_d0 {k d a b f n : Int} (h : iok k d a b f n = true) (hD0 : hD k = false) : d = 0 := by
 have := sok_of h
 simp only [sok, Bool.and_eq_true, regOk, hD0, Bool.false_and, Bool.or_false, beq_iff_eq] at this
 exact this.2.1
theorem iok_n0 {k d a b f n : Int} (h : iok k d a b f n = true) (hN0 : hN k = 0) : n = 0 := by
 have := iok_num h
 simpa [numOk, hN0] using this
def genE (e : Ev) (d v : Int) : Ev := if d = 0 then e else { e with d := d, v := v }
theorem gen_eq {s : St} {e : Ev} {k d a b f n : Int} (hg : genK k) (hi : iok k d a b f n = true) :
  (effS s e k d a b f n).fin s e = (⟨(nxV k n s.pc (rg s a) (rg s b) f).1, putR s.R d (nxV k n s.pc (rg s a) (rg s b) f).2, s.C, s.M⟩, genE e d (nxV k n s.pc (rg s a) (rg s b) f).2) := by
 obtain ⟨h3, h4, h10, h13, h14, h15, h12⟩ := hg
 rcases kinds (iok_k hi) with rfl | rfl | rfl | rfl | rfl | rfl | rfl | rfl | rfl | rfl | rfl | rfl | rfl | rfl | rfl | rfl
 ·rw [eff_0]; rfl
 ·rw [eff_1]; rfl
 ·rw [eff_2]; rfl
 ·exact absurd rfl h3
 ·exact absurd rfl h4
 ·rw [eff_5]
  obtain rfl := iok_d0 hi rfl
  show (_, _) = _
  by_cases h : rg s a = rg s b
  ·have hv : nxV 5 n s.pc (rg s a) (rg s b) f = ((s.pc + 1 + n) % 65536, 0) := if_pos h
   rw [hv, if_pos h, far_eq]; rfl
  ·have hv : nxV 5 n s.pc (rg s a) (rg s b) f = ((s.pc + 1) % 65536, 0) := if_neg h
   rw [hv, if_neg h]; rfl
 ·rw [eff_6]
  obtain rfl := iok_d0 hi rfl
  show (_, _) = _
  by_cases h : sgn (rg s a) < sgn (rg s b)
  ·have hv : nxV 6 n s.pc (rg s a) (rg s b) f = ((s.pc + 1 + n) % 65536, 0) := if_pos h
   rw [hv, if_pos h, far_eq]; rfl
  ·have hv : nxV 6 n s.pc (rg s a) (rg s b) f = ((s.pc + 1) % 65536, 0) := if_neg h
   rw [hv, if_neg h]; rfl
 ·rw [eff_7, far_eq]; rfl
 ·rw [eff_8]; rfl
 ·rw [eff_9]; rfl
 ·exact absurd rfl h10
 ·rw [eff_11]
  obtain rfl := iok_d0 hi rfl
  rfl
 ·exact absurd rfl h12
 ·exact absurd rfl h13
 ·exact absurd rfl h14
 ·exact absurd rfl h15
/-- Behind l4Do: what the instruction does; the event still wants a look at its register. -/
def DoP (o : Out) (s : St) (e : Ev) (gr gc gm cr cc cm : Nat) (u : World) (r : Ending) (u' : World) : Prop :=
 ∃ e', MP (o.fin s e).1 e' gr gc gm cr cc cm u r u' ∧ fixE e' = (o.fin s e).2
theorem doP {o : Out} {s s' : St} {e e' : Ev} {gr gc gm cr cc cm : Nat} {u : World} {f : FuncId} {args : Array Value} (C : Calls Tryd.prog f args u (MP s' e' gr gc gm cr cc cm u)) (h1 : (o.fin s e).1 = s') (h2 : fixE e' = (o.fin s e).2) :
  Calls Tryd.prog f args u (DoP o s e gr gc gm cr cc cm u) := C.mono fun r u' h => ⟨e', by rw [h1]; exact h, h2⟩
theorem swap_addr {s : St} (hk : OkS s) (a : Int) : (rg s a + 0) % 65536 = rg s a := by
 have := okB_true (rg_ok hk a)
 omega
theorem usr_iff (C : List Int) (h : 0 ≤ C.getD 3 0) : (usr C = true ∧ C.getD 3 0 % 2 = 1) ∨ (usr C = false ∧ C.getD 3 0 % 2 = 0) := by
 have h2 : C.getD 3 0 % 2 = 0 ∨ C.getD 3 0 % 2 = 1 := by omega
 rcases h2 with h2 | h2
 ·exact .inr ⟨usr_f h2, h2⟩
 ·exact .inl ⟨usr_t h2, h2⟩
set_option maxHeartbeats 2000000 in
theorem spec_l4Do (s : St) (e : Ev) (gr gc gm cr cc cm : Nat) (k d a b f n : Int) (u : World) (ho : Own u gr gc gm s) (hk : OkS s) (hi : iok k d a b f n = true) (hd : e.d = 0) (hv : e.v = 0) (had : e.ad = -1) (hdt : e.dt = 0) :
  Calls Tryd.prog 71 #[.agg #[.int .i64 s.pc, .slice (some ⟨gr, 0, none⟩) 8 cr, .slice (some ⟨gc, 0, none⟩) 5 cc, .slice (some ⟨gm, 0, none⟩) 256 cm], .agg #[.int .i64 k, .int .i64 d, .int .i64 a, .int .i64 b, .int .i64 f, .int .i64 n], .agg #[.int .i64 (e).pc, .int .i64 (e).w, .int .i64 (e).why, .int .i64 (e).d, .int .i64 (e).v, .int .i64 (e).ad, .int .i64 (e).dt]] u (DoP (effS s e k d a b f n) s e gr gc gm cr cc cm u) := by
 have hb := (sok_bd (sok_of hi)).1
 have c3 := (ok_get hk.C 3).1
 by_cases hg : genK k
 ·have he := gen_eq (s := s) (e := e) hg hi
  obtain ⟨h3, h4, h10, h13, h14, h15, h12⟩ := hg
  by_cases h0 : d = 0
  ·refine doP (spec_Do_gen0 s e gr gc gm cr cc cm k d a b f n u ho hk hi h3 h4 h10 h13 h14 h15 h12 h0) (by rw [he]) ?_
   rw [he, genE, if_pos h0]
   exact fix_id hd hv
  ·refine doP (spec_Do_gen s e gr gc gm cr cc cm k d a b f n u ho hk hi h3 h4 h10 h13 h14 h15 h12 (by omega)) (by rw [he]) ?_
   rw [he, genE, if_neg h0]
   exact if_neg h0
 ·rcases kinds (iok_k hi) with rfl | rfl | rfl | rfl | rfl | rfl | rfl | rfl | rfl | rfl | rfl | rfl | rfl | rfl | rfl | rfl
  ·exact absurd (by decide) hg
  ·exact absurd (by decide) hg
  ·exact absurd (by decide) hg
  ·rw [eff_3]
   by_cases hs : see s.C s.M ((rg s a + n) % 65536) false < 0
   ·rw [if_pos hs]
    exact doP (spec_Do_by3 s _ e _ gr gc gm cr cc cm d a b f n u ho (fun v ov => spec_Mem_stop3 s e gr gc gm cr cc cm d a b f n v ov hk hi hs)) rfl (fix_id hd hv)
   ·rw [if_neg hs]
    exact doP (spec_Do_by3 s _ e _ gr gc gm cr cc cm d a b f n u ho (fun v ov => spec_Mem_3 s e gr gc gm cr cc cm d a b f n v ov hk hi (by omega))) rfl (fix_put (by rw [← had, ← hdt]) hd hv)
  ·rw [eff_4]
   by_cases hs : see s.C s.M ((rg s a + n) % 65536) true < 0
   ·rw [if_pos hs]
    exact doP (spec_Do_by4 s _ e _ gr gc gm cr cc cm d a b f n u ho (fun v ov => spec_Mem_stop4 s e gr gc gm cr cc cm d a b f n v ov hk hi hs)) rfl (fix_id hd hv)
   ·rw [if_neg hs]
    exact doP (spec_Do_by4 s _ e _ gr gc gm cr cc cm d a b f n u ho (fun v ov => spec_Mem_4 s e gr gc gm cr cc cm d a b f n v ov hk hi (by omega))) rfl (fix_id hd hv)
  ·exact absurd (by decide) hg
  ·exact absurd (by decide) hg
  ·exact absurd (by decide) hg
  ·exact absurd (by decide) hg
  ·exact absurd (by decide) hg
  ·rw [eff_10]
   obtain rfl := iok_n0 hi rfl
   have hA := swap_addr hk a
   by_cases hs : see s.C s.M (rg s a) true < 0
   ·rw [if_pos hs]
    exact doP (spec_Do_by10 s _ e _ gr gc gm cr cc cm d a b f 0 u ho (fun v ov => spec_Mem_stop10 s e gr gc gm cr cc cm d a b f 0 v ov hk hi (by rw [hA]; exact hs))) rfl (fix_id hd hv)
   ·rw [if_neg hs]
    have C := fun v ov => spec_Mem_10 s e gr gc gm cr cc cm d a b f 0 v ov hk hi (by rw [hA]; omega)
    rw [hA] at C
    exact doP (spec_Do_by10 s _ e _ gr gc gm cr cc cm d a b f 0 u ho C) rfl (fix_put rfl hd hv)
  ·exact absurd (by decide) hg
  ·rw [eff_12]
   exact doP (spec_Do_12 s e gr gc gm cr cc cm d a b f n u ho hk hi) rfl (fix_id hd hv)
  ·rw [eff_13]
   rcases usr_iff s.C c3 with ⟨hu, h2⟩ | ⟨hu, h2⟩
   ·rw [if_pos hu]
    exact doP (spec_Do_by13 s _ e _ gr gc gm cr cc cm d a b f n u ho (fun v ov => spec_Own_stop s e gr gc gm cr cc cm 13 d a b f n v ov hk hi h2)) rfl (fix_id hd hv)
   ·rw [if_neg (by rw [hu]; decide)]
    exact doP (spec_Do_by13 s _ e _ gr gc gm cr cc cm d a b f n u ho (fun v ov => spec_Own_13 s e gr gc gm cr cc cm d a b f n v ov hk hi h2)) rfl (fix_id hd hv)
  ·rw [eff_14]
   rcases usr_iff s.C c3 with ⟨hu, h2⟩ | ⟨hu, h2⟩
   ·rw [if_pos hu]
    exact doP (spec_Do_by14 s _ e _ gr gc gm cr cc cm d a b f n u ho (fun v ov => spec_Own_stop s e gr gc gm cr cc cm 14 d a b f n v ov hk hi h2)) rfl (fix_id hd hv)
   ·rw [if_neg (by rw [hu]; decide)]
    exact doP (spec_Do_by14 s _ e _ gr gc gm cr cc cm d a b f n u ho (fun v ov => spec_Own_14 s e gr gc gm cr cc cm d a b f n v ov hk hi h2)) rfl (fix_put rfl hd hv)
  ·rw [eff_15]
   rcases usr_iff s.C c3 with ⟨hu, h2⟩ | ⟨hu, h2⟩
   ·rw [if_pos hu]
    exact doP (spec_Do_by15 s _ e _ gr gc gm cr cc cm d a b f n u ho (fun v ov => spec_Own_stop s e gr gc gm cr cc cm 15 d a b f n v ov hk hi h2)) rfl (fix_id hd hv)
   ·rw [if_neg (by rw [hu]; decide)]
    by_cases h3 : f = 3
    ·exact doP (spec_Do_by15 s _ e _ gr gc gm cr cc cm d a b f n u ho (fun v ov => spec_Own_153 s e gr gc gm cr cc cm d a b f n v ov hk hi h2 h3)) rfl (fix_id hd hv)
    ·exact doP (spec_Do_by15 s _ e _ gr gc gm cr cc cm d a b f n u ho (fun v ov => spec_Own_15n s e gr gc gm cr cc cm d a b f n v ov hk hi h2 h3)) rfl (fix_id hd hv)

end Go.Proofs.YtbjapncfgancoaaDoor
