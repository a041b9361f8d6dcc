/- The contract of spec.CodOk. The contracts of CodWord, of the program and of the model. -/
import Derived.Deep.DeepCutAuto
import Derived.Test.YtoacgjjpipdkjaaCod
namespace Go.Proofs.Ytoacgjjpipdkjaa
open Go.RowKit
set_option linter.unusedVariables false
theorem Below.drewN {B : Nat} {a w : World} (h : Below B a w) (m : Nat) : Below B a (w.drewN m) := ⟨h.os, h.tape, h.output, h.size, h.block⟩
def worD (k d a b f n : Int) : Int := if iok k d a b f n = true then wrd k (fldL d a b f n) 5 else -1
/-- The model's word so far: bits left, and the number. -/
def hasL (k : Int) : List Bool := [hD k, hA k, hB k, hF k]
def sl (k : Int) : Nat → Int
  | 0 => 12
  | p + 1 => if (hasL k).getD p false = true then sl k p - 3 else sl k p
def sw (k : Int) (v : List Int) : Nat → Int
  | 0 => k
  | p + 1 => if (hasL k).getD p false = true then sw k v p * 8 + v.getD p 0 else sw k v p
end Go.Proofs.Ytoacgjjpipdkjaa
