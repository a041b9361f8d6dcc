/- The plain machine, as a plain function of numbers: what is ok, what is seen, what a step does. -/
import Derived.Test.YtoacgjjpipdkjaaCodSd
import Derived.Test.YtoacgjjpipdkjaaWords
namespace Go.Proofs.Ytoacgjjpipdkjaa
open Go.RowKit
set_option linter.unusedVariables false
set_option linter.unusedSimpArgs false

/-- A machine: where it is, its registers, what it has of its own, its memory. -/
structure St where
  pc : Int
  R : List Int
  C : List Int
  M : List Int
/-- What was done. -/
structure Ev where
  pc : Int
  w : Int
  why : Int
  d : Int
  v : Int
  ad : Int
  dt : Int
def wordsB (l : List Int) (n : Nat) : Bool := l.all okB && decide (l.length = n)
theorem ok_get {l : List Int} (h : l.all okB = true) (i : Nat) : 0 ≤ l.getD i 0 ∧ l.getD i 0 < 65536 := by
  by_cases hi : i < l.length
  · have := List.all_eq_true.1 h (l.getD i 0) (by rw [List.getD_eq_getElem?_getD, List.getElem?_eq_getElem hi]; exact List.getElem_mem hi)
    exact okB_true this
  · rw [List.getD_eq_getElem?_getD, List.getElem?_eq_none (by omega)]
    simp
theorem ok_set {l : List Int} (h : l.all okB = true) (i : Nat) {v : Int} (hv : okB v = true) : (l.set i v).all okB = true := by
  rw [List.all_eq_true] at *
  intro x hx
  rcases List.mem_or_eq_of_mem_set hx with h1 | h1
  · exact h x h1
  · rw [h1]; exact hv
theorem getD_set {l : List Int} {i j : Nat} {v : Int} : (l.set i v).getD j 0 = if i = j ∧ j < l.length then v else l.getD j 0 := by
  simp only [List.getD_eq_getElem?_getD, List.getElem?_set]
  by_cases h : i = j
  · subst h
    by_cases h2 : i < l.length
    · simp [h2]
    · simp [h2]
  · simp [h]
/-- The place that a word of a table of pages tells. -/
def frame (x addr : Int) (save : Bool) : Int := if x / 16 % 2 = 0 ∨ (save = true ∧ x / 32 % 2 = 0) then -1 else x % 16 * 16 + addr % 16
/-- What an instruction does: it stops, or the machine goes on. -/
inductive Out where
  | stop (why : Int)
  | go (s : St) (e : Ev)
def putR (R : List Int) (d v : Int) : List Int := if d = 0 then R else R.set d.toNat v
def putE (e : Ev) (d v : Int) : Ev := if d = 0 then e else { e with d := d, v := v }
/-- A word goes into a register, and the machine is elsewhere. -/
def put (s : St) (e : Ev) (d v pc : Int) : Out := .go ⟨pc, putR s.R d v, s.C, s.M⟩ (putE e d v)
end Go.Proofs.Ytoacgjjpipdkjaa
