/- Chapter 3, plainly: labels, lines, and a text's words. -/
import Derived.Test.YtecdmafhjfnloaaGreatDoorTxtSoft
import Derived.Test.YtecdmafhjfnloaaGreatDoorCodWord
namespace Go.Proofs.YtecdmafhjfnloaaGreatDoor
open Go.RowKit
set_option linter.unusedVariables false

/-- A small letter. -/
def low (c : UInt8) : Bool := decide (97 ≤ c.toNat ∧ c.toNat ≤ 122)
/-- The name of a label, if a line is one. -/
def mark (l : List UInt8) : Option (List UInt8) :=
  if l.getLast? = some 58 ∧ 1 ≤ l.dropLast.length ∧ l.dropLast.length ≤ 6 ∧ l.dropLast.all low = true then some l.dropLast else none
/-- Labels and where they stand, the first ahead. -/
def look (ls : List (List UInt8 × Int)) (x : List UInt8) : Option Int := (ls.find? (fun e => e.1 == x)).map (·.2)
/-- All labels of lines, how many lines are none, and the first line (from 1 on) whose label stands twice. -/
def labs : List (List UInt8) → Nat → List (List UInt8 × Int) → Int → Int → List (List UInt8 × Int) × Int × Int
  | [], _, ls, at', tw => (ls, at', tw)
  | x :: r, i, ls, at', tw => match mark x with
    | none => labs r (i + 1) ls (at' + 1) tw
    | some name => match look ls name with
      | none => labs r (i + 1) (ls ++ [(name, at')]) at' tw
      | some _ => labs r (i + 1) ls at' (if tw = 0 then (i : Int) + 1 else tw)
def wordN : List UInt8 := [119, 111, 114, 100]
/-- The word for which a line stands that is no label. -/
def lineV (at' : Int) (L : List UInt8 → Option Int) (l : List UInt8) : Option Int :=
  if 30 < l.length then none else match sp l with
  | [] => none
  | w :: r => if w = wordN then (match r with
      | [x] => match canon x with
        | some n => if 0 ≤ n ∧ n < 65536 then some n else none
        | none => none
      | _ => none)
    else match rd at' L (w :: r) with
      | some (k, fs) => some (worD k (fs.getD 0 0) (fs.getD 1 0) (fs.getD 2 0) (fs.getD 3 0) (fs.getD 4 0))
      | none => none
/-- The words of lines, and the first line that is wrong. -/
def words (L : List UInt8 → Option Int) (tw : Int) : List (List UInt8) → Nat → List Int → List Int × Int
  | [], _, out => (out, 0)
  | x :: r, i, out => if (i : Int) + 1 = tw then ([], tw) else match mark x with
    | some _ => words L tw r (i + 1) out
    | none => match lineV out.length L x with
      | none => ([], (i : Int) + 1)
      | some v => words L tw r (i + 1) (out ++ [v])
def tread (ls : List (List UInt8)) : List Int × Int :=
  if 64 < ls.length then ([], 65) else
    words (look (labs ls 0 [] 0 0).1) (labs ls 0 [] 0 0).2.2 ls 0 []
theorem mark_low {l name : List UInt8} (h : mark l = some name) : name.all low = true ∧ 1 ≤ name.length ∧ name.length ≤ 6 := by
  unfold mark at h
  split at h
  · rename_i e; cases h; exact ⟨e.2.2.2, e.2.1, e.2.2.1⟩
  · cases h
/-- No label is a number. -/
theorem low_canon {x : List UInt8} (h : x.all low = true) (h1 : 1 ≤ x.length) : canon x = none := by
  cases e : canon x with
  | none => rfl
  | some n =>
    exfalso
    obtain ⟨hi, _⟩ := canon_some e
    cases x with
    | nil => simp at h1
    | cons c r =>
      simp only [List.all_cons, Bool.and_eq_true, low, decide_eq_true_eq] at h
      rcases itoa_mem n c (by rw [hi]; simp) with h2 | h2
      · rw [h2] at h; simp at h
      · omega
def Lows (ls : List (List UInt8 × Int)) : Prop := ∀ e ∈ ls, e.1.all low = true ∧ 1 ≤ e.1.length ∧ 0 ≤ e.2
theorem labs_low : ∀ (r : List (List UInt8)) (i : Nat) (ls : List (List UInt8 × Int)) (at' tw : Int), Lows ls → 0 ≤ at' → Lows (labs r i ls at' tw).1
  | [], _, ls, _, _, h, _ => h
  | x :: r, i, ls, at', tw, h, ha => by
    simp only [labs]
    split
    · exact labs_low r _ _ _ _ h (by omega)
    · rename_i name hm
      split
      · refine labs_low r _ _ _ _ ?_ ha
        intro e he
        rcases List.mem_append.1 he with he | he
        · exact h e he
        · rw [List.mem_singleton.1 he]
          exact ⟨(mark_low hm).1, (mark_low hm).2.1, ha⟩
      · exact labs_low r _ _ _ _ h ha
theorem look_canon {ls : List (List UInt8 × Int)} (h : Lows ls) : ∀ x t, look ls x = some t → canon x = none := by
  intro x t e
  unfold look at e
  cases hf : ls.find? (fun e => e.1 == x) with
  | none => rw [hf] at e; cases e
  | some p =>
    have h1 := List.mem_of_find?_eq_some hf
    have h2 := List.find?_some hf
    have h3 := h p h1
    have h4 : p.1 = x := by simpa using h2
    rw [h4] at h3
    exact low_canon h3.1 h3.2.1
end Go.Proofs.YtecdmafhjfnloaaGreatDoor
