/- Chapter 3: lines that were written are read back as the words that they are (plain facts). -/
import Derived.Test.YtecdmafhjfnloaaGreatDoorRl3
import Derived.Test.YtecdmafhjfnloaaGreatDoorCodFacts
namespace Go.Proofs.YtecdmafhjfnloaaGreatDoor
open Go.RowKit
set_option linter.unusedVariables false

theorem nm_notword : ∀ i, i < 23 → nmL.getD i [] ≠ wordN := by decide
theorem nm_no58 : ∀ i, i < 23 → ∀ c ∈ nmL.getD i [], c ≠ 58 := by decide
theorem kind_no58 {l : List UInt8} (h : (58 : UInt8) ∈ l) : kindOf l = none := by
  unfold kindOf
  rw [List.findIdx?_eq_none_iff]
  intro x hx
  obtain ⟨i, hi, rfl⟩ := List.mem_iff_getElem.1 hx
  have hi' : i < 23 := hi
  have h2 := nm_no58 i hi' 58
  rw [List.getD_eq_getElem?_getD, List.getElem?_eq_getElem hi] at h2
  simp only [Option.getD_some] at h2
  simp only [beq_eq_false_iff_ne]
  intro e
  rw [e] at h2
  exact h2 h rfl
theorem mark_parts {l n : List UInt8} (h : mark l = some n) : l = n ++ [58] ∧ n.all low = true := by
  unfold mark at h
  split at h
  · rename_i e
    cases h
    obtain ⟨e1, e2, e3, e4⟩ := e
    have hne : l ≠ [] := fun e => by rw [e] at e1; simp at e1
    have := List.dropLast_concat_getLast hne
    rw [List.getLast?_eq_some_getLast hne] at e1
    rw [Option.some.inj e1] at this
    exact ⟨this.symm, e4⟩
  · cases h
/-- A label is no line of another sort. -/
theorem mark_line {l n : List UInt8} (h : mark l = some n) (at' : Int) (L : List UInt8 → Option Int) : lineV at' L l = none := by
  obtain ⟨rfl, hn⟩ := mark_parts h
  have h58 : (58 : UInt8) ∈ n ++ [58] := by simp
  have hsp : sp (n ++ [58]) = [n ++ [58]] := sp_one _ (fun c hc => by
    rcases List.mem_append.1 hc with hc | hc
    · have := List.all_eq_true.1 hn c hc
      unfold low at this
      intro e
      subst e
      simp at this
    · rw [List.mem_singleton.1 hc]; decide)
  rw [lineV_eq, hsp]
  split
  · rfl
  · have hw : n ++ [58] ≠ wordN := fun e => by
      rw [e] at h58
      revert h58
      decide
    simp only [lineT, if_neg hw, rd, kind_no58 h58]
theorem nm_get {k d a b f n : Int} (h : iok k d a b f n = true) : nm k f ≠ wordN := nm_notword _ (nmI_lt h)
/-- A word's line stands for the word. -/
theorem line_back {x : Int} (hx : okB x = true) (at' : Int) (L : List UInt8 → Option Int) (HL : ∀ y t, L y = some t → canon y = none) : (lineW x).length ≤ 30 ∧ lineV at' L (lineW x) = some x := by
  obtain ⟨x0, x1⟩ := okB_true hx
  unfold lineW
  cases hg : gd x with
  | true =>
    rw [if_pos rfl]
    obtain ⟨h1, h2⟩ := read_ok hg
    unfold txtD
    rw [if_pos h1]
    have hl := txt_len h1
    refine ⟨hl, ?_⟩
    rw [lineV_eq, if_neg (by omega)]
    have hr := rd_txt h1 at' L HL
    rw [sp_txt h1] at hr ⊢
    simp only [lineT, if_neg (nm_get h1), hr]
    show some (worD _ _ _ _ _ _) = _
    exact congrArg some h2
  | false =>
    rw [if_neg (by simp)]
    have hl := itoa_le x (by omega) (by omega)
    have hl2 : ([119, 111, 114, 100, 32] ++ Lib.itoa x).length ≤ 30 := by simp; omega
    refine ⟨hl2, ?_⟩
    rw [lineV_eq, if_neg (by omega)]
    have hsp : sp ([119, 111, 114, 100, 32] ++ Lib.itoa x) = [wordN, Lib.itoa x] := by
      rw [show [119, 111, 114, 100, 32] ++ Lib.itoa x = wordN ++ 32 :: Lib.itoa x from rfl, sp_app _ _ (by decide), sp_one _ (itoa_no32 x)]
    rw [hsp]
    show (match canon (Lib.itoa x) with | some n => if 0 ≤ n ∧ n < 65536 then some n else none | none => none) = some x
    rw [canon_itoa x (by omega) (by omega)]
    exact if_pos ⟨x0, by omega⟩
theorem mark_back {x : Int} (hx : okB x = true) : mark (lineW x) = none := by
  cases h : mark (lineW x) with
  | none => rfl
  | some n =>
    have h1 := mark_line h 0 (fun _ => none)
    rw [(line_back hx 0 (fun _ => none) nofun).2] at h1
    cases h1
theorem labs_back : ∀ (xs : List Int) (i : Nat) (a : Int), xs.all okB = true → (labs (xs.map lineW) i [] a 0).1 = [] ∧ (labs (xs.map lineW) i [] a 0).2.2 = 0
  | [], _, _, _ => ⟨rfl, rfl⟩
  | x :: xs, i, a, h => by
    simp only [List.all_cons, Bool.and_eq_true] at h
    simp only [List.map_cons, labs, mark_back h.1]
    exact labs_back xs (i + 1) (a + 1) h.2
theorem words_back (L : List UInt8 → Option Int) (HL : ∀ y t, L y = some t → canon y = none) : ∀ (xs : List Int) (i : Nat) (out : List Int), xs.all okB = true → words L 0 (xs.map lineW) i out = (out ++ xs, 0)
  | [], _, out, _ => by simp [words]
  | x :: xs, i, out, h => by
    simp only [List.all_cons, Bool.and_eq_true] at h
    simp only [List.map_cons, words, mark_back h.1, (line_back h.1 out.length L HL).2]
    rw [if_neg (by omega), words_back L HL xs (i + 1) (out ++ [x]) h.2]
    simp
theorem tread_back {xs : List Int} (hl : xs.length ≤ 64) (h : xs.all okB = true) : tread (xs.map lineW) = (xs, 0) := by
  unfold tread
  rw [if_neg (by simp; omega)]
  obtain ⟨h1, h2⟩ := labs_back xs 0 0 h
  rw [h1, h2, words_back (look []) (fun y t h => by simp [look] at h) xs 0 [] h]
  simp
theorem lines_short {xs : List Int} (h : xs.all okB = true) : ∀ y ∈ xs.map lineW, y.length ≤ 30 := fun y hy => by
  obtain ⟨x, hx, rfl⟩ := List.mem_map.1 hy
  exact (line_back (List.all_eq_true.1 h x hx) 0 (fun _ => none) nofun).1
end Go.Proofs.YtecdmafhjfnloaaGreatDoor
