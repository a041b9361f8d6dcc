/- A new machine of the program; which method does what. -/
import Derived.Test.YtbjapncfgancoaaDoorPm8
import Derived.Test.YtbjapncfgancoaaDoorPm9
import Derived.Test.YtbjapncfgancoaaDoorRegion4
namespace Go.Proofs.YtbjapncfgancoaaDoor
open Go.RowKit
set_option linter.unusedVariables false
set_option linter.unusedSimpArgs false
/-- A value that is a machine in new rows. -/
def CQ (B : Nat) (s : St) (v : Value) (u : World) : Prop := ∃ gr gc gm cr cc cm, v = .agg #[.int .i64 s.pc, .slice (some ⟨gr, 0, none⟩) 8 cr, .slice (some ⟨gc, 0, none⟩) 5 cc, .slice (some ⟨gm, 0, none⟩) 256 cm] ∧ Own u gr gc gm s ∧ B ≤ gr ∧ B ≤ gc ∧ B ≤ gm
theorem CQ.but {B : Nat} {s : St} {v : Value} {u u' : World} (h : CQ B s v u) (f : But [] u u') : CQ B s v u' := by
  obtain ⟨gr, gc, gm, cr, cc, cm, e, ho, hh⟩ := h
  exact ⟨gr, gc, gm, cr, cc, cm, e, ho.but f (by simp) (by simp) (by simp), hh⟩
/-- A value that holds a machine, what it has done, and where it goes on. -/
def NQ (B : Nat) (s : St) (v : Value) (u : World) : Prop := ∃ gr gc gm cr cc cm, v = .agg (mCells s.pc gr gc gm cr cc cm (ev0 s) (nx s)).toArray ∧ Own u gr gc gm s ∧ B ≤ gr ∧ B ≤ gc ∧ B ≤ gm
theorem NQ.but {B : Nat} {s : St} {v : Value} {u u' : World} (h : NQ B s v u) (f : But [] u u') : NQ B s v u' := by
  obtain ⟨gr, gc, gm, cr, cc, cm, e, ho, hh⟩ := h
  exact ⟨gr, gc, gm, cr, cc, cm, e, ho.but f (by simp) (by simp) (by simp), hh⟩
/-- A pointer to a new machine. -/
def PQ (B : Nat) (s : St) (v : Value) (u : World) : Prop := ∃ m gr gc gm cr cc cm, v = .pointer (some ⟨m, 0, none⟩) ∧ Mx u m gr gc gm cr cc cm s (ev0 s) (nx s) ∧ B ≤ m ∧ B ≤ gr ∧ B ≤ gc ∧ B ≤ gm
theorem PQ.but {B : Nat} {s : St} {v : Value} {u u' : World} (h : PQ B s v u) (f : But [] u u') : PQ B s v u' := by
  obtain ⟨m, gr, gc, gm, cr, cc, cm, e, ho, hh⟩ := h
  exact ⟨m, gr, gc, gm, cr, cc, cm, e, ho.but f (by simp) (by simp) (by simp) (by simp), hh⟩
theorem mx_new (u : World) (gr gc gm cr cc cm : Nat) (s : St) (e : Ev) (nx : Int) (t : TypeId) (ho : Own u gr gc gm s) : Mx (u.alloc (.cells (mCells s.pc gr gc gm cr cc cm e nx).toArray t)) u.heap.size gr gc gm cr cc cm s e nx := by
  have l1 := ho.R.lt
  have l2 := ho.C.lt
  have l3 := ho.M.lt
  exact ⟨by simp, fun j hj => by rw [(alloc_at u _ t _ rfl j).1]; simp, fun j hj => (alloc_at u _ t _ rfl j).2, ho.alloc _, by omega, by omega, by omega⟩
/-- Behind newMachine. -/
def NewMP (s : St) (w : World) (e : Ending) (w' : World) : Prop := ∃ m gr gc gm cr cc cm, e = .returned (.pointer (some ⟨m, 0, none⟩)) ∧ Mx w' m gr gc gm cr cc cm s (ev0 s) (nx s) ∧ w.heap.size ≤ m ∧ w.heap.size ≤ gr ∧ w.heap.size ≤ gc ∧ w.heap.size ≤ gm ∧ Fr w w'
set_option maxRecDepth 8000 in
set_option maxHeartbeats 4000000 in
theorem impl_newMachine (s : St) (aR aC aM : Option Addr) (cR cC cM : Nat) (w : World) (h : SrcS w s aR aC aM) (hk : OkS s) :
    Calls Tryd.prog 50 #[.agg #[.int .i64 (s).pc, .slice aR (s).R.length cR, .slice aC (s).C.length cC, .slice aM (s).M.length cM]] w (NewMP s w) := by
  have HS := Lib.hid (h.fr (Fr.alloc w (.cells #[.int .i64 s.pc, .slice aR s.R.length cR, .slice aC s.C.length cC, .slice aM s.M.length cM] 26)))
  have HF := Lib.hid (Fr.alloc w (.cells #[.int .i64 s.pc, .slice aR s.R.length cR, .slice aC s.C.length cC, .slice aM s.M.length cM] 26))
  have HX := Lib.hid (Box4.new w (.int .i64 s.pc) (.slice aR s.R.length cR) (.slice aC s.C.length cC) (.slice aM s.M.length cM) 26 _ rfl)
  have hpc := okB_true hk.pc
  have HK := Lib.hid hk
  clear h hk
  go_enter Tryd.func50, Tryd.ntmps50
  go_wp2_with fail
  generalize (w.alloc (.cells #[.int .i64 s.pc, .slice aR s.R.length cR, .slice aC s.C.length cC, .slice aM s.M.length cM] 26)) = u0 at *
  have hB0 := HF.out.size
  obtain ⟨B0, hB0e⟩ : ∃ x, u0.heap.size = x := ⟨_, rfl⟩
  have hsz0 : B0 ≤ u0.heap.size := by omega
  have hXB : w.heap.size ≤ B0 := by omega
  have hW0 := Lib.hid hXB
  clear hB0 hXB
  generalize hXe : w.heap.size = X at *
  refine wp_region_lots 14 (fun i => []) (fun _ _ => True) (fun i v u => match i with | 0 => v = .agg #[.int .i64 s.pc, .slice aR s.R.length cR, .slice aC s.C.length cC, .slice aM s.M.length cM] | 1 => CQ B0 s v u | 2 => v = .pointer (some ⟨X, 0, none⟩) | 3 => v = .int .i64 s.pc | 4 => v = .agg #[.int .i64 s.pc, .int .i64 (-1), .int .i64 0, .int .i64 0, .int .i64 0, .int .i64 (-1), .int .i64 0] | 5 => v = .pointer (some ⟨X, 0, none⟩) | 6 => v = .int .i64 s.pc | 7 => v = .int .i64 (s.pc + 1) | 8 => v = .int .i64 (nx s) | 9 => NQ B0 s v u | 10 => PQ B0 s v u | _ => PQ B0 s v u) ?mono (by kernel_rfl) (by kernel_rfl) rfl (by kernel_rfl) trivial ?step ?fin
  case mono =>
    intro i j v u u' hij hsz h hB
    rcases j with _ | _ | _ | _ | _ | _ | _ | _ | _ | _ | _ | j
    · exact h
    · exact h.but hB
    · exact h
    · exact h
    · exact h
    · exact h
    · exact h
    · exact h
    · exact h
    · exact h.but hB
    · exact h.but hB
    · exact h.but hB
  case step =>
    intro i o ho
    rcases i with _ | _ | _ | _ | _ | _ | _ | _ | _ | _ | _ | _ | i
    · cases ho
      intro fu act u hW hB hsz hL hdep
      replace hB := hB [] (fun j hj hd k hk => by
        cases hk)
      obtain ⟨ysl, ha, hy⟩ := hL.puts [3, 4, 5, 6, 7, 8, 9, 10, 11, 12, 13, 2] (by kernel_rfl)
      clear hdep hL hy
      simp only [List.foldl, List.setIfInBounds_toArray, List.set_cons_succ, List.set_cons_zero] at ha
      subst ha
      obtain ⟨_, c0, c1, c2, c3, _, _, _, _⟩ := HX.out.but hB (by simp)
      refine wpOp_step rfl (fun K hK => ?_)
      go_simp
      exact hK _ _ ⟨_, rfl, (fun h => by cases h), rfl, But.refl _ _, trivial⟩
    · cases ho
      intro fu act u hW hB hsz hL hdep
      replace hB := hB [] (fun j hj hd k hk => by
        cases hk)
      have d0 := hdep { on := 0, ground := .data } (by simp) rfl _ rfl
      obtain ⟨ysl, ha, hy⟩ := hL.puts [3, 4, 5, 6, 7, 8, 9, 10, 11, 12, 13, 2] (by kernel_rfl)
      have e0 : ysl 3 = _ := (hy 3).symm.trans d0
      clear hdep hL hy d0
      simp only [List.foldl, List.setIfInBounds_toArray, List.set_cons_succ, List.set_cons_zero, e0] at ha
      subst ha
      clear e0
      refine wpOp_step rfl (fun K hK => ?_)
      go_simp
      refine (impl_clone s aR aC aM cR cC cM u (HS.out.fr (fr_but (L := []) (Below.refl u0.heap.size u0) hB (fun k hk => by cases hk))) HK.out.Rl HK.out.Cl HK.out.Ml).mono ?_
      rintro e u' ⟨gr, gc, gm, cr, cc, cm, rfl, ho, l1, l2, l3, f⟩
      go_simp
      exact hK _ _ ⟨_, rfl, (fun h => by cases h), ⟨gr, gc, gm, cr, cc, cm, rfl, ho, by omega, by omega, by omega⟩, But.of f, trivial⟩
    · cases ho
      intro fu act u hW hB hsz hL hdep
      replace hB := hB [] (fun j hj hd k hk => by
        cases hk)
      obtain ⟨ysl, ha, hy⟩ := hL.puts [3, 4, 5, 6, 7, 8, 9, 10, 11, 12, 13, 2] (by kernel_rfl)
      clear hdep hL hy
      simp only [List.foldl, List.setIfInBounds_toArray, List.set_cons_succ, List.set_cons_zero] at ha
      subst ha
      refine wpOp_step rfl (fun K hK => ?_)
      go_simp
      exact hK _ _ ⟨_, rfl, (fun h => by cases h), rfl, But.refl _ _, trivial⟩
    · cases ho
      intro fu act u hW hB hsz hL hdep
      replace hB := hB [] (fun j hj hd k hk => by
        cases hk)
      have d2 := hdep { on := 2, ground := .data } (by simp) rfl _ rfl
      obtain ⟨ysl, ha, hy⟩ := hL.puts [3, 4, 5, 6, 7, 8, 9, 10, 11, 12, 13, 2] (by kernel_rfl)
      have e2 : ysl 5 = _ := (hy 5).symm.trans d2
      clear hdep hL hy d2
      simp only [List.foldl, List.setIfInBounds_toArray, List.set_cons_succ, List.set_cons_zero, e2] at ha
      subst ha
      clear e2
      obtain ⟨_, c0, c1, c2, c3, _, _, _, _⟩ := HX.out.but hB (by simp)
      refine wpOp_step rfl (fun K hK => ?_)
      go_simp
      exact hK _ _ ⟨_, rfl, (fun h => by cases h), rfl, But.refl _ _, trivial⟩
    · cases ho
      intro fu act u hW hB hsz hL hdep
      replace hB := hB [] (fun j hj hd k hk => by
        cases hk)
      have d3 := hdep { on := 3, ground := .data } (by simp) rfl _ rfl
      obtain ⟨ysl, ha, hy⟩ := hL.puts [3, 4, 5, 6, 7, 8, 9, 10, 11, 12, 13, 2] (by kernel_rfl)
      have e3 : ysl 6 = _ := (hy 6).symm.trans d3
      clear hdep hL hy d3
      simp only [List.foldl, List.setIfInBounds_toArray, List.set_cons_succ, List.set_cons_zero, e3] at ha
      subst ha
      clear e3
      refine wpOp_step rfl (fun K hK => ?_)
      go_simp
      exact hK _ _ ⟨_, rfl, (fun h => by cases h), rfl, But.refl _ _, trivial⟩
    · cases ho
      intro fu act u hW hB hsz hL hdep
      replace hB := hB [] (fun j hj hd k hk => by
        cases hk)
      obtain ⟨ysl, ha, hy⟩ := hL.puts [3, 4, 5, 6, 7, 8, 9, 10, 11, 12, 13, 2] (by kernel_rfl)
      clear hdep hL hy
      simp only [List.foldl, List.setIfInBounds_toArray, List.set_cons_succ, List.set_cons_zero] at ha
      subst ha
      refine wpOp_step rfl (fun K hK => ?_)
      go_simp
      exact hK _ _ ⟨_, rfl, (fun h => by cases h), rfl, But.refl _ _, trivial⟩
    · cases ho
      intro fu act u hW hB hsz hL hdep
      replace hB := hB [] (fun j hj hd k hk => by
        cases hk)
      have d5 := hdep { on := 5, ground := .data } (by simp) rfl _ rfl
      obtain ⟨ysl, ha, hy⟩ := hL.puts [3, 4, 5, 6, 7, 8, 9, 10, 11, 12, 13, 2] (by kernel_rfl)
      have e5 : ysl 8 = _ := (hy 8).symm.trans d5
      clear hdep hL hy d5
      simp only [List.foldl, List.setIfInBounds_toArray, List.set_cons_succ, List.set_cons_zero, e5] at ha
      subst ha
      clear e5
      obtain ⟨_, c0, c1, c2, c3, _, _, _, _⟩ := HX.out.but hB (by simp)
      refine wpOp_step rfl (fun K hK => ?_)
      go_simp
      exact hK _ _ ⟨_, rfl, (fun h => by cases h), rfl, But.refl _ _, trivial⟩
    · cases ho
      intro fu act u hW hB hsz hL hdep
      replace hB := hB [] (fun j hj hd k hk => by
        cases hk)
      have d6 := hdep { on := 6, ground := .data } (by simp) rfl _ rfl
      obtain ⟨ysl, ha, hy⟩ := hL.puts [3, 4, 5, 6, 7, 8, 9, 10, 11, 12, 13, 2] (by kernel_rfl)
      have e6 : ysl 9 = _ := (hy 9).symm.trans d6
      clear hdep hL hy d6
      simp only [List.foldl, List.setIfInBounds_toArray, List.set_cons_succ, List.set_cons_zero, e6] at ha
      subst ha
      clear e6
      refine wpOp_step rfl (fun K hK => ?_)
      go_simp
      exact hK _ _ ⟨_, rfl, (fun h => by cases h), (by first | rfl | (exact congrArg (Value.int .i64) (by rw [IntWalk.i64_left, IntWalk.wrap64_in _ (by omega)])) | simp), But.refl _ _, trivial⟩
    · cases ho
      intro fu act u hW hB hsz hL hdep
      replace hB := hB [] (fun j hj hd k hk => by
        cases hk)
      have d7 := hdep { on := 7, ground := .data } (by simp) rfl _ rfl
      obtain ⟨ysl, ha, hy⟩ := hL.puts [3, 4, 5, 6, 7, 8, 9, 10, 11, 12, 13, 2] (by kernel_rfl)
      have e7 : ysl 10 = _ := (hy 10).symm.trans d7
      clear hdep hL hy d7
      simp only [List.foldl, List.setIfInBounds_toArray, List.set_cons_succ, List.set_cons_zero, e7] at ha
      subst ha
      clear e7
      refine wpOp_step rfl (fun K hK => ?_)
      go_simp
      refine (impl_wrapped _ u (by omega) (by omega)).mono ?_
      rintro r u' ⟨rfl, rfl⟩
      go_simp
      exact hK _ _ ⟨_, rfl, (fun h => by cases h), rfl, But.refl _ _, trivial⟩
    · cases ho
      intro fu act u hW hB hsz hL hdep
      replace hB := hB [] (fun j hj hd k hk => by
        cases hk)
      have d1 := hdep { on := 1, ground := .data } (by simp) rfl _ rfl
      have d4 := hdep { on := 4, ground := .data } (by simp) rfl _ rfl
      have d8 := hdep { on := 8, ground := .data } (by simp) rfl _ rfl
      obtain ⟨ysl, ha, hy⟩ := hL.puts [3, 4, 5, 6, 7, 8, 9, 10, 11, 12, 13, 2] (by kernel_rfl)
      obtain ⟨gr, gc, gm, cr, cc, cm, h1, ho, hb1, hb2, hb3⟩ := d1
      have e1 : ysl 4 = .agg #[.int .i64 s.pc, .slice (some ⟨gr, 0, none⟩) 8 cr, .slice (some ⟨gc, 0, none⟩) 5 cc, .slice (some ⟨gm, 0, none⟩) 256 cm] := (hy 4).symm.trans h1
      have e4 : ysl 7 = _ := (hy 7).symm.trans d4
      have e8 : ysl 11 = _ := (hy 11).symm.trans d8
      clear hdep hL hy d4 d8 h1
      simp only [List.foldl, List.setIfInBounds_toArray, List.set_cons_succ, List.set_cons_zero, e1, e4, e8] at ha
      subst ha
      clear e1 e4 e8
      refine wpOp_step rfl (fun K hK => ?_)
      go_simp
      exact hK _ _ ⟨_, rfl, (fun h => by cases h), ⟨gr, gc, gm, cr, cc, cm, rfl, ho, hb1, hb2, hb3⟩, But.refl _ _, trivial⟩
    · cases ho
      intro fu act u hW hB hsz hL hdep
      replace hB := hB [] (fun j hj hd k hk => by
        cases hk)
      have d9 := hdep { on := 9, ground := .data } (by simp) rfl _ rfl
      obtain ⟨ysl, ha, hy⟩ := hL.puts [3, 4, 5, 6, 7, 8, 9, 10, 11, 12, 13, 2] (by kernel_rfl)
      obtain ⟨gr, gc, gm, cr, cc, cm, h9, ho, hb1, hb2, hb3⟩ := d9
      have e9 : ysl 12 = .agg (mCells s.pc gr gc gm cr cc cm (ev0 s) (nx s)).toArray := (hy 12).symm.trans h9
      clear hdep hL hy h9
      simp only [List.foldl, List.setIfInBounds_toArray, List.set_cons_succ, List.set_cons_zero, e9] at ha
      subst ha
      clear e9
      refine wpOp_step rfl (fun K hK => ?_)
      go_simp
      exact hK _ _ ⟨_, rfl, (fun h => by cases h), ⟨_, gr, gc, gm, cr, cc, cm, rfl, mx_new u gr gc gm cr cc cm s (ev0 s) (nx s) _ ho, by omega, hb1, hb2, hb3⟩, But.of (Fr.alloc _ _), trivial⟩
    · cases ho
      intro fu act u hW hB hsz hL hdep
      replace hB := hB [] (fun j hj hd k hk => by
        cases hk)
      have d10 := hdep { on := 10, ground := .data } (by simp) rfl _ rfl
      obtain ⟨ysl, ha, hy⟩ := hL.puts [3, 4, 5, 6, 7, 8, 9, 10, 11, 12, 13, 2] (by kernel_rfl)
      obtain ⟨m, gr, gc, gm, cr, cc, cm, h10, hM, hb0, hb1, hb2, hb3⟩ := d10
      have e10 : ysl 13 = .pointer (some ⟨m, 0, none⟩) := (hy 13).symm.trans h10
      clear hdep hL hy h10
      simp only [List.foldl, List.setIfInBounds_toArray, List.set_cons_succ, List.set_cons_zero, e10] at ha
      subst ha
      clear e10
      refine wpOp_step rfl (fun K hK => ?_)
      go_simp
      exact hK _ _ ⟨_, rfl, (fun h => by cases h), ⟨m, gr, gc, gm, cr, cc, cm, rfl, hM, hb0, hb1, hb2, hb3⟩, But.refl _ _, trivial⟩
    · exact absurd ho (by simp)
  case fin =>
    intro act u hW hsz hB hL hsf
    replace hB := hB [] (fun j k hk => by
      cases hk)
    have d11 := hsf 11 _ rfl
    obtain ⟨ysl, ha, hy⟩ := hL.puts [3, 4, 5, 6, 7, 8, 9, 10, 11, 12, 13, 2] (by kernel_rfl)
    obtain ⟨m, gr, gc, gm, cr, cc, cm, h11, hM, hb0, hb1, hb2, hb3⟩ := d11
    have e11 : ysl 2 = .pointer (some ⟨m, 0, none⟩) := (hy 2).symm.trans h11
    clear hL hsf hy h11
    simp only [List.foldl, List.setIfInBounds_toArray, List.set_cons_succ, List.set_cons_zero, e11] at ha
    subst ha
    clear e11
    have fB : Fr u0 u := (fr_but (L := []) (Below.refl u0.heap.size u0) hB (fun k hk => by cases hk))
    clear hB hW
    go_wp2_with fail
    go_ret
    have hX0 := hW0.out
    exact ⟨m, gr, gc, gm, cr, cc, cm, rfl, hM, by omega, by omega, by omega, by omega, Fr.trans HF.out fB⟩

end Go.Proofs.YtbjapncfgancoaaDoor
