/- PlnStep of a machine that may be anything, of the program and of the model; what was done, compared. -/
import Derived.Test.YtbjapncfgancoaaDoorPe3
import Derived.Test.YtbjapncfgancoaaDoorPres
namespace Go.Proofs.YtbjapncfgancoaaDoor
open Go.RowKit
set_option linter.unusedVariables false
set_option linter.unusedSimpArgs false
abbrev noE : Ev := ⟨0, 0, 0, 0, 0, 0, 0⟩
/-- The machine behind a step, and what was done; of one that is not ok nothing. -/
def stepD (s : St) (ring : Bool) : St × Ev := if okS s = true then stepS s ring else (noS, noE)
/-- Behind a call whose answer is a machine and what was done. -/
def ResE (t : St) (ev : Ev) (w : World) (e : Ending) (w' : World) : Prop := ∃ aR aC aM cR cC cM, e = .returned (.tuple #[.agg #[.int .i64 (t).pc, .slice aR (t).R.length cR, .slice aC (t).C.length cC, .slice aM (t).M.length cM], .agg #[.int .i64 (ev).pc, .int .i64 (ev).w, .int .i64 (ev).why, .int .i64 (ev).d, .int .i64 (ev).v, .int .i64 (ev).ad, .int .i64 (ev).dt]]) ∧ VcS w.heap.size w' t aR aC aM ∧ (∀ b : Addr, aR = some b ∨ aC = some b ∨ aM = some b → w.heap.size ≤ b.block ∧ b.block < w'.heap.size) ∧ Fr w w'
theorem pst_res {s : St} {ring : Bool} {w : World} {e : Ending} {w' : World} (hk : OkS s) (h : PstP s ring w e w') : ResE (stepS s ring).1 (stepS s ring).2 w e w' := by
 obtain ⟨gr, gc, gm, cr, cc, cm, he, ho, l1, l2, l3, f⟩ := h
 have h2 := step_ok hk ring
 refine ⟨some ⟨gr, 0, none⟩, some ⟨gc, 0, none⟩, some ⟨gm, 0, none⟩, cr, cc, cm, by rw [h2.Rl, h2.Cl, h2.Ml]; exact he, ho.vcs l1 l2 l3, fun b hb => ?_, f⟩
 rcases hb with hb | hb | hb
 ·cases hb; exact ⟨l1, ho.R.lt⟩
 ·cases hb; exact ⟨l2, ho.C.lt⟩
 ·cases hb; exact ⟨l3, ho.M.lt⟩
theorem spec_step_res {s t : St} {ev : Ev} {aR aC aM : Option Addr} {cR cC cM : Nat} {ring : Bool} {w : World} (ht : stepD s ring = (t, ev)) (h : SrcS w s aR aC aM) (hf : Few s) :
  Calls Tryd.prog 20 #[.agg #[.int .i64 (s).pc, .slice aR (s).R.length cR, .slice aC (s).C.length cC, .slice aM (s).M.length cM], .bool ring] w (ResE t ev w) := by
 by_cases hk : okS s = true
 ·rw [stepD, if_pos hk] at ht
  refine (spec_PlnStep s aR aC aM cR cC cM ring w h hf ((okS_iff s).1 hk)).mono fun e w' hq => ?_
  have := pst_res ((okS_iff s).1 hk) hq
  rw [ht] at this
  exact this
 ·rw [stepD, if_neg hk] at ht
  obtain ⟨rfl, rfl⟩ := Prod.mk.inj ht
  refine (spec_PlnStep_no s aR aC aM cR cC cM ring w h hf (by simpa using hk)).mono fun e w' hq => ?_
  exact ⟨none, none, none, 0, 0, 0, hq.1, VcS.nil _ _ _, (fun b hb => by rcases hb with hb | hb | hb <;> cases hb), hq.2⟩
theorem impl_step_res {s t : St} {ev : Ev} {aR aC aM : Option Addr} {cR cC cM : Nat} {ring : Bool} {w : World} (ht : stepD s ring = (t, ev)) (h : SrcS w s aR aC aM) (hf : Few s) (htb : Tabs w) :
  Calls Tryd.prog 22 #[.agg #[.int .i64 (s).pc, .slice aR (s).R.length cR, .slice aC (s).C.length cC, .slice aM (s).M.length cM], .bool ring] w (ResE t ev w) := by
 by_cases hk : okS s = true
 ·rw [stepD, if_pos hk] at ht
  refine (impl_PlnStep s aR aC aM cR cC cM ring w h ((okS_iff s).1 hk) htb).mono fun e w' hq => ?_
  have := pst_res ((okS_iff s).1 hk) hq
  rw [ht] at this
  exact this
 ·rw [stepD, if_neg hk] at ht
  obtain ⟨rfl, rfl⟩ := Prod.mk.inj ht
  refine (impl_PlnStep_no s aR aC aM cR cC cM ring w h hf (by simpa using hk)).mono fun e w' hq => ?_
  exact ⟨none, none, none, 0, 0, 0, hq.1, VcS.nil _ _ _, (fun b hb => by rcases hb with hb | hb | hb <;> cases hb), hq.2⟩
theorem few_step (s : St) (ring : Bool) : Few20 (stepD s ring).1 := by
 unfold stepD
 split
 ·rename_i h
  exact ok_few20 (step_ok ((okS_iff s).1 h) ring)
 ·exact ⟨by simp, by simp, by simp⟩
set_option maxHeartbeats 1000000 in
theorem laws_eqPlnEvent_same (e : Ev) (w : World) : Calls Tryd.prog 24 #[.agg #[.int .i64 (e).pc, .int .i64 (e).w, .int .i64 (e).why, .int .i64 (e).d, .int .i64 (e).v, .int .i64 (e).ad, .int .i64 (e).dt], .agg #[.int .i64 (e).pc, .int .i64 (e).w, .int .i64 (e).why, .int .i64 (e).d, .int .i64 (e).v, .int .i64 (e).ad, .int .i64 (e).dt]] w fun r w' => r = .returned (.bool true) ∧ Fr w w' := by
 obtain ⟨a, b, c, d, x, y, z⟩ := e
 go_enter Tryd.func24, Tryd.ntmps24
 go_wp2
 go_ret
 refine ⟨rfl, ?_⟩
 (repeat' first | (with_reducible exact Below.refl _ _) | (with_reducible assumption) | ((with_reducible refine Below.setCell ?_ ?hb _); (case hb => first | exact Nat.le_refl _ | (simp; done) | (simp; omega) | omega)) | ((with_reducible refine Below.alloc ?_ ?hb _); (case hb => first | exact Nat.le_refl _ | (simp; done) | (simp; omega) | omega)) | (with_reducible refine Below.drew ?_))

end Go.Proofs.YtbjapncfgancoaaDoor
