/- A machine at the beginning of words. What is seen at an address: of the program and of the model; a word that is laid. A word that is laid: of the program and of the model. The model's step, part by part: what stops, what is put. -/
import Derived.StillTailTactics
import Derived.Test.YtoacgjjpipdkjaaPl0
namespace Go.Proofs.Ytoacgjjpipdkjaa
open Go.RowKit
set_option linter.unusedVariables false
set_option linter.unusedSimpArgs false
def zeros (n : Nat) : List Int := List.replicate n 0
section
variable {P : Program} {Q : Exit → Act → World → Prop}
end
theorem Box4.alloc {u : World} {g : Nat} {a b c d : Value} (h : Box4 u g a b c d) (o : Obj) : Box4 (u.alloc o) g a b c d := h.fr (Fr.alloc _ _)
theorem Box4.drew {u : World} {g : Nat} {a b c d : Value} (h : Box4 u g a b c d) : Box4 u.drew g a b c d := h.but (L := []) (But.refl _ _).drew (by simp)
theorem Box4.other {u : World} {g : Nat} {a b c d : Value} (h : Box4 u g a b c d) (Z j : Nat) (v : Value) (hz : ¬ Z = g) : Box4 (u.setCell ⟨Z, j, none⟩ v) g a b c d :=
  h.but (L := [Z]) ((But.refl _ _).set Z j v (.inl (by simp))) (by simp; try omega)
end Go.Proofs.Ytoacgjjpipdkjaa
