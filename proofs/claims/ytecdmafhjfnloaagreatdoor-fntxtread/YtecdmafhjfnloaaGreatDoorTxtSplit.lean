/- Words of a line: cut at each single blank, as strings.Split cuts it and as the model does. No program is named. -/
import Derived.Lib.SplitLaws
namespace Go.Proofs.YtecdmafhjfnloaaGreatDoor
open Go
set_option linter.unusedVariables false

/-- The words of a line. -/
def sp : List UInt8 → List (List UInt8)
  | [] => [[]]
  | c :: r => if c = 32 then [] :: sp r else match sp r with
    | h :: t => (c :: h) :: t
    | [] => [[c]]
theorem sp_ne : ∀ l, sp l ≠ []
  | [] => by simp [sp]
  | c :: r => by
    unfold sp
    split
    · simp
    · split <;> simp
/-- What stands ahead of the first word. -/
def ahead (w : List UInt8) (l : List (List UInt8)) : List (List UInt8) := match l with
  | h :: t => (w ++ h) :: t
  | [] => [w]
theorem ahead_nil (l : List UInt8) : ahead [] (sp l) = sp l := by
  cases h : sp l with
  | nil => exact absurd h (sp_ne l)
  | cons a t => simp [ahead]
theorem sp_blank (r : List UInt8) : sp (32 :: r) = [] :: sp r := by simp [sp]
theorem sp_char {c : UInt8} (h : ¬ c = 32) (r : List UInt8) : sp (c :: r) = ahead [c] (sp r) := by
  rw [sp, if_neg h]
  cases e : sp r with
  | nil => rfl
  | cons a t => rfl
theorem ahead_blank (w r : List UInt8) : ahead w (sp (32 :: r)) = w :: sp r := by rw [sp_blank]; simp [ahead]
theorem ahead_char {c : UInt8} (h : ¬ c = 32) (w r : List UInt8) : ahead w (sp (c :: r)) = ahead (w ++ [c]) (sp r) := by
  rw [sp_char h]
  cases e : sp r with
  | nil => simp [ahead]
  | cons a t => simp [ahead]
theorem sp_app : ∀ (w r : List UInt8), (∀ c ∈ w, c ≠ 32) → sp (w ++ 32 :: r) = w :: sp r
  | [], r, _ => by simp [sp]
  | c :: w, r, h => by
    have h1 : ¬ c = 32 := h c (by simp)
    rw [List.cons_append, sp_char h1, sp_app w r (fun x hx => h x (by simp [hx]))]
    simp [ahead]
theorem sp_one : ∀ (w : List UInt8), (∀ c ∈ w, c ≠ 32) → sp w = [w]
  | [], _ => rfl
  | c :: w, h => by
    have h1 : ¬ c = 32 := h c (by simp)
    rw [sp_char h1, sp_one w (fun x hx => h x (by simp [hx]))]
    rfl
theorem index_char {c : UInt8} (h : ¬ c = 32) (r : List UInt8) : Lib.index (c :: r) [32] = if Lib.index r [32] == -1 then -1 else Lib.index r [32] + 1 := by
  rw [Lib.index]
  have : ([32] : List UInt8).isPrefixOf (c :: r) = false := by simp [List.isPrefixOf]; exact fun e => h e.symm
  rw [this]; rfl
theorem index_blank (r : List UInt8) : Lib.index (32 :: r) [32] = 0 := by simp [Lib.index, List.isPrefixOf]
theorem index_sp : ∀ l : List UInt8, (Lib.index l [32] = -1 ∧ sp l = [l]) ∨ ∃ i : Nat, Lib.index l [32] = i ∧ i < l.length ∧ sp l = l.take i :: sp (l.drop (i + 1))
  | [] => Or.inl ⟨by simp [Lib.index], rfl⟩
  | c :: r => by
    by_cases h : c = 32
    · subst h
      exact Or.inr ⟨0, by rw [index_blank]; rfl, by simp, by simp [sp]⟩
    · rcases index_sp r with ⟨h1, h2⟩ | ⟨i, h1, h2, h3⟩
      · refine Or.inl ⟨by rw [index_char h, h1]; rfl, by rw [sp_char h, h2]; rfl⟩
      · refine Or.inr ⟨i + 1, ?_, by simp; omega, ?_⟩
        · rw [index_char h, h1, if_neg (by simp)]; rfl
        · rw [sp_char h, h3]; simp [ahead]
theorem splitK_sp : ∀ (k : Nat) (l : List UInt8), (sp l).length = k + 1 → Lib.splitK [32] 0 k l = sp l
  | 0, l, h => by
    rcases index_sp l with ⟨_, h2⟩ | ⟨i, _, _, h3⟩
    · simp [Lib.splitK, h2]
    · rw [h3] at h
      have := sp_ne (l.drop (i + 1))
      simp at h; exact absurd h this
  | k + 1, l, h => by
    rcases index_sp l with ⟨h1, h2⟩ | ⟨i, h1, h2, h3⟩
    · rw [h2] at h; simp at h
    · rw [h3] at h ⊢
      rw [Lib.splitK, h1, if_neg (by simp)]
      simp at h
      rw [show ((i : Int).toNat + 0) = i by omega, show (i : Int).toNat + ([32] : List UInt8).length = i + 1 by simp, splitK_sp k _ h]
theorem count_sp (l : List UInt8) : (sp l).length = Lib.count l [32] + 1 := by
  generalize hn : l.length = n
  induction n using Nat.strongRecOn generalizing l with
  | _ n ih =>
    rcases index_sp l with ⟨h1, h2⟩ | ⟨i, h1, h2, h3⟩
    · rw [Lib.count_miss h1, h2]; rfl
    · rw [Lib.count_hit (by simp) h1, h3]
      have := ih (l.drop (i + 1)).length (by simp; omega) (l.drop (i + 1)) rfl
      simp only [List.length_cons, List.length_nil, Nat.zero_add] at this ⊢
      omega
/-- The pieces that strings.Split hands back. -/
theorem split_sp (s : ByteArray) : (Lib.splitB ⟨#[32]⟩ 0 (Lib.countB s ⟨#[32]⟩) s).map (·.data.toList) = sp s.data.toList := by
  rw [Lib.splitB_data]
  exact splitK_sp _ _ (count_sp _)
end Go.Proofs.YtecdmafhjfnloaaGreatDoor
