/- A machine that came in: a number, and three rows of numbers. -/
import Derived.ProofKit
import Derived.OpenShut
import Derived.ChangeOld
import Derived.Test.YtoacgjjpipdkjaaPh
namespace Go.Proofs.Ytoacgjjpipdkjaa
open Go.ChangeShapes Go.WideShapes Go.ChangeAt Go.RowKit
set_option linter.unusedVariables false
set_option linter.unusedSimpArgs false
set_option maxRecDepth 100000 in
theorem row_open {H : Type} {enc : TypeId × Value → H} {w : World} {base : Nat} {spare : Nat → Bool} {held : Bool} {fuel : Nat} {c : Value} {x : DataW H × List MemPlace} (h : DataW.trod enc Try.prog w base spare held fuel 22 [c] = some x) :
    ∃ (ao : Option Addr) (cap : Nat) (xs : List Int), c = .slice ao xs.length cap ∧ Src w xs.length (ivl xs) ao ∧ xs.length ≤ 9223372036854775807 := by
  rcases open_ints Try.underlying22 Try.underlying3 (by kernel_rfl) h with ⟨hcs, _⟩ | ⟨a, l, cp, zs, hcs, _, hl, hm, hz, _, hcell, hwz⟩
  · injection hcs with hcs
    subst hcs
    exact ⟨none, 0, [], rfl, fun h => by simp at h, by simp⟩
  · injection hcs with hcs
    subst hcs
    have hzl : l ≤ zs.length := by rw [hz]; split <;> omega
    have hlen : (zs.take l).length = l := by simp; omega
    have hmx : maxLen = 9223372036854775807 := rfl
    refine ⟨some a, cp, zs.take l, by rw [hlen], ?_, by omega⟩
    refine src_of_row fun i hi => ?_
    rw [hlen] at hi
    rw [hcell i (by omega)]
    simp only [ivl, List.getD_eq_getElem?_getD, List.getElem?_take_of_lt hi]
end Go.Proofs.Ytoacgjjpipdkjaa
