/- A row from its second number on. -/
import Derived.Test.YtmkinbnopgfljaaPh
import Derived.Test.YtmkinbnopgfljaaPl8
import Derived.Test.YtmkinbnopgfljaaPl5
namespace Go.Proofs.Ytmkinbnopgfljaa
open Go.RowKit
set_option linter.unusedVariables false
set_option linter.unusedSimpArgs false
/-- A value that is a machine. -/
def MQ (t : St) (v : Value) (u : World) : Prop := ∃ B aR aC aM cR cC cM, v = .agg #[.int .i64 (t).pc, .slice aR (t).R.length cR, .slice aC (t).C.length cC, .slice aM (t).M.length cM] ∧ VcS B u t aR aC aM
theorem MQ.but {t : St} {v : Value} {u u' : World} (h : MQ t v u) (f : But [] u u') : MQ t v u' := by
  obtain ⟨B, aR, aC, aM, cR, cC, cM, e, V⟩ := h
  exact ⟨B, aR, aC, aM, cR, cC, cM, e, V.but f (fun b _ => by simp)⟩
/-- A value that is a row of noughts. -/
def ZQ (n : Nat) (v : Value) (u : World) : Prop := ∃ g, v = .slice (some ⟨g, 0, none⟩) n n ∧ Ro u g (zeros n)
theorem ZQ.but {n : Nat} {v : Value} {u u' : World} (h : ZQ n v u) (f : But [] u u') : ZQ n v u' := by
  obtain ⟨g, e, r⟩ := h
  exact ⟨g, e, r.but f (by simp)⟩
theorem zeros_at (n i : Nat) : (zeros n).getD i 0 = 0 := by
  simp only [zeros, List.getD_eq_getElem?_getD, List.getElem?_replicate]
  split <;> rfl
theorem newM_at (ws : List Int) (p : Nat) : (newM ws).getD p 0 = if p < ws.length then ws.getD p 0 else 0 := by
  simp only [newM, List.getD_eq_getElem?_getD, List.getElem?_append]
  split
  · rfl
  · have := zeros_at (256 - ws.length) (p - ws.length)
    simpa [List.getD_eq_getElem?_getD] using this
theorem goodW_no {ws : List Int} (h : goodW ws = false) (hl : ws.length ≤ 256) (hok : ∀ i, i < ws.length → okB (ws.getD i 0) = true) : False := by
  have : ws.all okB = true := all_take hok (Nat.le_refl _)
  simp [goodW, hl, this] at h
theorem goodW_yes {ws : List Int} (h : goodW ws = true) : ws.length ≤ 256 ∧ ∀ i, i < ws.length → okB (ws.getD i 0) = true := by
  simp only [goodW, Bool.and_eq_true, decide_eq_true_eq] at h
  exact ⟨h.1, fun i hi => okB_mk (ok_get h.2 i).1 (ok_get h.2 i).2⟩

end Go.Proofs.Ytmkinbnopgfljaa
