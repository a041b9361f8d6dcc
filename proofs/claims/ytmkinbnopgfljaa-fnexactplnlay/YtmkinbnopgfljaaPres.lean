/- Answers that are machines: in new rows, or none. -/
import Derived.Test.YtmkinbnopgfljaaPh
namespace Go.Proofs.Ytmkinbnopgfljaa
open Go.RowKit
set_option linter.unusedVariables false
/-- Behind a call whose answer is the machine t: its rows are new. -/
def ResP (t : St) (w : World) (e : Ending) (w' : World) : Prop := ∃ aR aC aM cR cC cM, e = .returned (.agg #[.int .i64 (t).pc, .slice aR (t).R.length cR, .slice aC (t).C.length cC, .slice aM (t).M.length cM]) ∧ VcS w.heap.size w' t aR aC aM ∧ (∀ b : Addr, aR = some b ∨ aC = some b ∨ aM = some b → w.heap.size ≤ b.block ∧ b.block < w'.heap.size) ∧ Fr w w'
theorem cp_res {t : St} {w : World} {e : Ending} {w' : World} (h1 : t.R.length = 8) (h2 : t.C.length = 5) (h3 : t.M.length = 256) (h : CpS t w e w') : ResP t w e w' := by
  obtain ⟨gr, gc, gm, cr, cc, cm, he, ho, l1, l2, l3, f⟩ := h
  refine ⟨some ⟨gr, 0, none⟩, some ⟨gc, 0, none⟩, some ⟨gm, 0, none⟩, cr, cc, cm, by rw [h1, h2, h3]; exact he, ho.vcs l1 l2 l3, fun b hb => ?_, f⟩
  rcases hb with hb | hb | hb
  · cases hb; exact ⟨l1, ho.R.lt⟩
  · cases hb; exact ⟨l2, ho.C.lt⟩
  · cases hb; exact ⟨l3, ho.M.lt⟩
abbrev noS : St := ⟨0, [], [], []⟩
theorem no_res {w : World} {e : Ending} {w' : World} (he : e = .returned noSt) (f : Fr w w') : ResP noS w e w' :=
  ⟨none, none, none, 0, 0, 0, he, VcS.nil _ _ _, (fun b hb => by rcases hb with hb | hb | hb <;> cases hb), f⟩
def layD (s : St) (a n : Int) : St := if layB s a n = true then layS s a n else noS
theorem lay_res {s t : St} {a n : Int} {w : World} {e : Ending} {w' : World} (ht : layD s a n = t) (h : LayP s a n w e w') : ResP t w e w' := by
  subst ht
  rcases h with ⟨hb, h⟩ | ⟨hb, he, f⟩
  · have hk := lay_ok hb
    rw [layD, if_pos hb]
    exact cp_res hk.Rl hk.Cl hk.Ml h
  · rw [layD, if_neg (by simp [hb])]
    exact no_res he f
theorem few_lay (s : St) (a n : Int) (h : Few20 s) : Few20 (layD s a n) := by
  unfold layD
  split
  · exact ⟨h.R, h.C, by simpa [layS] using h.M⟩
  · exact ⟨by simp, by simp, by simp⟩
end Go.Proofs.Ytmkinbnopgfljaa
