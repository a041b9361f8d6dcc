/- Small laws for regions told slot by slot; two words, two texts. -/
import Derived.Test.YtecdmafhjfnloaaGreatDoorTx2
import Derived.Test.YtecdmafhjfnloaaGreatDoorCodFacts
import Derived.Test.YtecdmafhjfnloaaGreatDoorCodUp
import Derived.Test.YtecdmafhjfnloaaGreatDoorRegion
namespace Go.Proofs.YtecdmafhjfnloaaGreatDoor
open Go.RowKit
set_option linter.unusedVariables false
theorem fr_grown {u u' : World} (f : Fr u u') : u.grownBy u' (some 0) := ⟨f.os, f.tape, f.output, f.size, fun k hk _ => f.block k hk⟩
theorem word_inj {k d a b f n k' d' a' b' f' n' : Int} (h : iok k d a b f n = true) (h' : iok k' d' a' b' f' n' = true) (e : worD k d a b f n = worD k' d' a' b' f' n') : k = k' ∧ d = d' ∧ a = a' ∧ b = b' ∧ f = f' ∧ n = n' := by
  obtain ⟨_, g1, g2, g3, g4, g5, g6⟩ := gd_word h
  obtain ⟨_, e1, e2, e3, e4, e5, e6⟩ := gd_word h'
  rw [e] at g1 g2 g3 g4 g5 g6
  exact ⟨g1.symm.trans e1, g2.symm.trans e2, g3.symm.trans e3, g4.symm.trans e4, g5.symm.trans e5, g6.symm.trans e6⟩
theorem ifs6 {α : Type} {k d a b f n k' d' a' b' f' n' : Int} (h : ¬ (k = k' ∧ d = d' ∧ a = a' ∧ b = b' ∧ f = f' ∧ n = n')) (x y : α) :
    (if k = k' then if d = d' then if a = a' then if b = b' then if f = f' then if n = n' then x else y else y else y else y else y else y) = y := by
  by_cases h1 : k = k'
  · by_cases h2 : d = d'
    · by_cases h3 : a = a'
      · by_cases h4 : b = b'
        · by_cases h5 : f = f'
          · by_cases h6 : n = n'
            · exact absurd ⟨h1, h2, h3, h4, h5, h6⟩ h
            · rw [if_pos h1, if_pos h2, if_pos h3, if_pos h4, if_pos h5, if_neg h6]
          · rw [if_pos h1, if_pos h2, if_pos h3, if_pos h4, if_neg h5]
        · rw [if_pos h1, if_pos h2, if_pos h3, if_neg h4]
      · rw [if_pos h1, if_pos h2, if_neg h3]
    · rw [if_pos h1, if_neg h2]
  · rw [if_neg h1]
theorem bs_inj {x y : List UInt8} (h : bs x = bs y) : x = y := by
  have := congrArg (fun z : ByteArray => z.data.toList) h
  simpa using this
end Go.Proofs.YtecdmafhjfnloaaGreatDoor
