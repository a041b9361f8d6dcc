/- The plain machine, as a plain function of numbers: what is ok, what is seen, what a step does. -/
import Derived.Test.YtmkinbnopgfljaaCodSd
import Derived.Test.YtmkinbnopgfljaaWords
namespace Go.Proofs.Ytmkinbnopgfljaa
open Go.RowKit
set_option linter.unusedVariables false
set_option linter.unusedSimpArgs false

/-- A machine: where it is, its registers, what it has of its own, its memory. -/
structure St where
  pc : Int
  R : List Int
  C : List Int
  M : List Int
/-- What was done. -/
structure Ev where
  pc : Int
  w : Int
  why : Int
  d : Int
  v : Int
  ad : Int
  dt : Int
def wordsB (l : List Int) (n : Nat) : Bool := l.all okB && decide (l.length = n)
structure OkS (s : St) : Prop where
  pc : okB s.pc = true
  R : s.R.all okB = true
  Rl : s.R.length = 8
  C : s.C.all okB = true
  Cl : s.C.length = 5
  M : s.M.all okB = true
  Ml : s.M.length = 256
  r0 : s.R.getD 0 0 = 0
  c3 : s.C.getD 3 0 < 4
def okS (s : St) : Bool := okB s.pc && (wordsB s.R 8 && (wordsB s.C 5 && (wordsB s.M 256 && (decide (s.R.getD 0 0 = 0) && decide (s.C.getD 3 0 < 4)))))
theorem okS_iff (s : St) : okS s = true ↔ OkS s := by
  simp only [okS, wordsB, Bool.and_eq_true, decide_eq_true_eq]
  constructor
  · rintro ⟨h1, ⟨h2, h3⟩, ⟨h4, h5⟩, ⟨h6, h7⟩, h8, h9⟩
    exact ⟨h1, h2, h3, h4, h5, h6, h7, h8, h9⟩
  · rintro ⟨h1, h2, h3, h4, h5, h6, h7, h8, h9⟩
    exact ⟨h1, ⟨h2, h3⟩, ⟨h4, h5⟩, ⟨h6, h7⟩, h8, h9⟩
theorem ok_set {l : List Int} (h : l.all okB = true) (i : Nat) {v : Int} (hv : okB v = true) : (l.set i v).all okB = true := by
  rw [List.all_eq_true] at *
  intro x hx
  rcases List.mem_or_eq_of_mem_set hx with h1 | h1
  · exact h x h1
  · rw [h1]; exact hv
theorem getD_set {l : List Int} {i j : Nat} {v : Int} : (l.set i v).getD j 0 = if i = j ∧ j < l.length then v else l.getD j 0 := by
  simp only [List.getD_eq_getElem?_getD, List.getElem?_set]
  by_cases h : i = j
  · subst h
    by_cases h2 : i < l.length
    · simp [h2]
    · simp [h2]
  · simp [h]
/-- The place that a word of a table of pages tells. -/
def frame (x addr : Int) (save : Bool) : Int := if x / 16 % 2 = 0 ∨ (save = true ∧ x / 32 % 2 = 0) then -1 else x % 16 * 16 + addr % 16
def stopC (s : St) (why : Int) : List Int := ((s.C.set 0 s.pc).set 1 why).set 3 (2 * (s.C.getD 3 0 % 2))
/-- A machine that stops. -/
def stopS (s : St) (why : Int) : St := ⟨8, s.R, stopC s why, s.M⟩
/-- What an instruction does: it stops, or the machine goes on. -/
inductive Out where
  | stop (why : Int)
  | go (s : St) (e : Ev)
def Out.fin (s : St) (e : Ev) : Out → St × Ev
  | .stop why => (stopS s why, { e with why := why })
  | .go s' e' => (s', e')
def putR (R : List Int) (d v : Int) : List Int := if d = 0 then R else R.set d.toNat v
def putE (e : Ev) (d v : Int) : Ev := if d = 0 then e else { e with d := d, v := v }
/-- A word goes into a register, and the machine is elsewhere. -/
def put (s : St) (e : Ev) (d v pc : Int) : Out := .go ⟨pc, putR s.R d v, s.C, s.M⟩ (putE e d v)
end Go.Proofs.Ytmkinbnopgfljaa
