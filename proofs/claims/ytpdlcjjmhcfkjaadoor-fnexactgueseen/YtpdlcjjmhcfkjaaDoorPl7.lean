/- A word that is laid: of the program and of the model. -/
import Derived.Test.YtpdlcjjmhcfkjaaDoorPl6
import Derived.Test.YtpdlcjjmhcfkjaaDoorPl5
namespace Go.Proofs.YtpdlcjjmhcfkjaaDoor
open Go.RowKit
set_option linter.unusedVariables false
set_option linter.unusedSimpArgs false
def layS (s : St) (a n : Int) : St := ⟨s.pc, s.R, s.C, s.M.set a.toNat n⟩
def layB (s : St) (a n : Int) : Bool := okS s && (decide (0 ≤ a ∧ a < 256) && okB n)
/-- Behind PlnLay. -/
def LayP (s : St) (a n : Int) (w : World) (e : Ending) (w' : World) : Prop := (layB s a n = true ∧ CpS (layS s a n) w e w') ∨ (layB s a n = false ∧ e = .returned noSt ∧ Fr w w')
theorem lay_ok {s : St} {a n : Int} (h : layB s a n = true) : OkS (layS s a n) := by
  simp only [layB, Bool.and_eq_true, decide_eq_true_eq] at h
  obtain ⟨h1, _, h3⟩ := h
  have h := (okS_iff s).1 h1
  exact ⟨h.pc, h.R, h.Rl, h.C, h.Cl, ok_set h.M _ h3, by simp [layS, h.Ml], h.r0, h.c3⟩
end Go.Proofs.YtpdlcjjmhcfkjaaDoor
