/- The model's steps, one behind the other: l4Step, PlnRun. -/
import Derived.Maps.AppendAt
import Derived.Test.YtbjapncfgancoaaDoorPl14
namespace Go.Proofs.YtbjapncfgancoaaDoor
open Go.RowKit
set_option linter.unusedVariables false
set_option linter.unusedSimpArgs false
theorem spec_l4Step (s : St) (gr gc gm cr cc cm : Nat) (ring : Bool) (u : World) (ho : Own u gr gc gm s) (hk : OkS s) :
    Calls Tryd.prog 47 #[.agg #[.int .i64 s.pc, .slice (some ⟨gr, 0, none⟩) 8 cr, .slice (some ⟨gc, 0, none⟩) 5 cc, .slice (some ⟨gm, 0, none⟩) 256 cm], .bool ring] u (MP (stepS s ring).1 (stepS s ring).2 gr gc gm cr cc cm u) := by
  have c3 := (ok_get hk.C 3).1
  by_cases h1 : ring = true ∧ usr s.C = true
  · have e : stepS s ring = (stopS s 7, { ev0 s with why := 7 }) := if_pos h1
    rw [e]
    obtain ⟨rfl, hu⟩ := h1
    exact spec_Step_ring s gr gc gm cr cc cm u ho hk hu
  · have e1 : stepS s ring = (if see s.C s.M s.pc false < 0 then (stopS s 2, { ev0 s with why := 2 }) else if gd (wAt s) = false then (stopS s 1, { ev1 s with why := 1 }) else (exeS s).fin s (ev1 s)) := if_neg h1
    rw [e1]
    by_cases hs : see s.C s.M s.pc false < 0
    · rw [if_pos hs]
      cases ring
      · exact spec_Step_takeF s gr gc gm cr cc cm u ho hk hs
      · exact spec_Step_takeT s gr gc gm cr cc cm u ho hk (by simpa using h1) hs
    · rw [if_neg hs]
      by_cases hg : gd (wAt s) = false
      · rw [if_pos hg]
        cases ring
        · exact spec_Step_codeF s gr gc gm cr cc cm u ho hk (by omega) hg
        · exact spec_Step_codeT s gr gc gm cr cc cm u ho hk (by simpa using h1) (by omega) hg
      · rw [if_neg hg]
        have hg' : gd (wAt s) = true := by simpa using hg
        cases ring
        · exact spec_Step_exeF s gr gc gm cr cc cm u ho hk (by omega) hg'
        · exact spec_Step_exeT s gr gc gm cr cc cm u ho hk (by simpa using h1) (by omega) hg'
end Go.Proofs.YtbjapncfgancoaaDoor
