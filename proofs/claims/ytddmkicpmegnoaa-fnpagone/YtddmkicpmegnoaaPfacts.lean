/- Plain facts that the laws of chapter 4 ask. -/
import Derived.Test.YtddmkicpmegnoaaPl6
import Derived.Test.YtddmkicpmegnoaaPl7
namespace Go.Proofs.Ytddmkicpmegnoaa
open Go.RowKit
set_option linter.unusedVariables false
/-- Where one may save one may load, at the same place. -/
theorem see_save {C M : List Int} {a : Int} (h : 0 ≤ see C M a true) : see C M a false = see C M a true := by
  unfold see at *
  by_cases h1 : C.getD 3 0 % 2 = 0
  · simp only [if_pos h1]
  · simp only [if_neg h1] at h ⊢
    by_cases h2 : 256 ≤ a ∨ 256 ≤ C.getD 2 0 + a / 16
    · simp only [if_pos h2] at h
      omega
    · simp only [if_neg h2] at h ⊢
      generalize M.getD (C.getD 2 0 + a / 16).toNat 0 = x at *
      unfold frame at *
      by_cases h3 : x / 16 % 2 = 0 ∨ (true = true ∧ x / 32 % 2 = 0)
      · rw [if_pos h3] at h
        omega
      · rw [if_neg h3, if_neg (fun hh => h3 (by
          rcases hh with hh | hh
          · exact .inl hh
          · exact absurd hh.1 (by decide)))]
/-- Addresses of one page go together. -/
theorem see_page {C M : List Int} {b k : Int} {save : Bool} (h3 : C.getD 3 0 % 2 = 1) (hb : b % 16 = 0) (hb0 : 0 ≤ b) (hk : 0 ≤ k) (hk2 : k < 16) :
    (see C M b save < 0 → see C M (b + k) save = -1) ∧ (0 ≤ see C M b save → see C M (b + k) save = see C M b save + k) := by
  have e1 : (b + k) / 16 = b / 16 := by omega
  have e2 : (b + k) % 16 = k := by omega
  have h3' : ¬ C.getD 3 0 % 2 = 0 := by omega
  unfold see
  simp only [if_neg h3', e1]
  have hiff : (256 ≤ b + k ∨ 256 ≤ C.getD 2 0 + b / 16) ↔ (256 ≤ b ∨ 256 ≤ C.getD 2 0 + b / 16) := by omega
  by_cases h : 256 ≤ b ∨ 256 ≤ C.getD 2 0 + b / 16
  · rw [if_pos h, if_pos (hiff.2 h)]
    exact ⟨fun _ => rfl, fun h0 => by omega⟩
  · rw [if_neg h, if_neg (fun hh => h (hiff.1 hh))]
    generalize M.getD (C.getD 2 0 + b / 16).toNat 0 = x
    unfold frame
    by_cases h2 : x / 16 % 2 = 0 ∨ (save = true ∧ x / 32 % 2 = 0)
    · rw [if_pos h2, if_pos h2]
      exact ⟨fun _ => rfl, fun h0 => by omega⟩
    · rw [if_neg h2, if_neg h2, e2, hb]
      exact ⟨fun h0 => by omega, fun h0 => by omega⟩

end Go.Proofs.Ytddmkicpmegnoaa
