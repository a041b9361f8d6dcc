/- Numerals: what strconv reads of what it wrote; the numbers that a line may hold. No program is named. Words of a line: cut at each single blank, as strings.Split cuts it and as the model does. No program is named. Chapter 3, plainly: an instruction's text, and what a line's words say. Chapter 3, plainly: what an instruction's text says is the instruction; two instructions have two texts. Chapter 3, plainly: the model's way of reading an instruction's words (a register that is none is -1, and a number has five digits at most) says the same. Chapter 3, plainly: labels, lines, and a text's words. -/
import Derived.Lib.AtoiAll
import Derived.Lib.ItoaNum
import Derived.Lib.SplitLaws
import Derived.Test.YtoacgjjpipdkjaaCodOk
namespace Go.Proofs.Ytoacgjjpipdkjaa
open Go
set_option linter.unusedVariables false

/-- What digits spell, behind what stands ahead. -/
@[irreducible] def d1 (acc : Nat) (c : UInt8) : Nat := acc * 10 + (c.toNat - 48)
theorem d1_eq (acc : Nat) (c : UInt8) : d1 acc c = acc * 10 + (c.toNat - 48) := by unfold d1; exact Eq.refl _
/-- The number that a text is, if it is written as numbers are. -/
def canon (l : List UInt8) : Option Int :=
  match Lib.atoiAll l with
  | .ok n => if Lib.itoa n = l then some n else none
  | _ => none
open Go
/-- The words of instructions: those of what is done with two words first, then by their kinds. -/
def nmL : List (List UInt8) := [[97, 100, 100], [115, 117, 98], [97, 110, 100], [111, 114], [120, 111, 114], [108, 101, 115, 115], [115, 104, 108], [115, 104, 114], [97, 100, 100, 105], [108, 117, 105], [108, 111, 97, 100], [115, 97, 118, 101], [101, 113], [108, 116], [106, 117, 109, 112], [99, 97, 108, 108], [109, 117, 108], [115, 119, 97, 112], [119, 97, 105, 116], [115, 121, 115], [98, 97, 99, 107], [103, 101, 116], [115, 101, 116]]
def nmI (k f : Int) : Nat := if k = 0 then f.toNat else k.toNat + 7
def nm (k f : Int) : List UInt8 := nmL.getD (nmI k f) []
/-- Which word of an instruction a text is. -/
def kindOf (w : List UInt8) : Option Nat := nmL.findIdx? (fun x => x == w)
def mk (i : Nat) : Int := if i < 8 then 0 else (i : Int) - 7
def mf (i : Nat) : Int := if i < 8 then (i : Int) else 0
def regI (x : List UInt8) : Option Int := if x.head? = some 114 then canon x.tail else none
/-- How far a label is from behind a place. -/
def labD (at' : Int) (L : List UInt8 → Option Int) (x : List UInt8) : Option Int := (L x).map (fun t => t - at' - 1)
def dist (k at' : Int) (L : List UInt8 → Option Int) (x : List UInt8) : Option Int :=
  if k = 5 ∨ k = 6 ∨ k = 7 then (labD at' L x).or (canon x) else canon x
def rdV (h : Nat) (k at' : Int) (L : List UInt8 → Option Int) (x : List UInt8) : Option Int := if h = 1 then regI x else if h = 3 then canon x else dist k at' L x
def rdTo (k f at' : Int) (L : List UInt8 → Option Int) (ws : List (List UInt8)) : Nat → Option (List Int × List (List UInt8))
  | 0 => some ([0, 0, 0, f, 0], ws)
  | p + 1 => match rdTo k f at' L ws p with
    | none => none
    | some (fs, ws') => if layN k p = 0 ∨ layN k p = 2 then some (fs, ws') else match ws' with
      | [] => none
      | x :: r => match rdV (layN k p) k at' L x with
        | none => none
        | some v => some (fs.set p v, r)
def iokL (k : Int) (fs : List Int) : Bool := iok k (fs.getD 0 0) (fs.getD 1 0) (fs.getD 2 0) (fs.getD 3 0) (fs.getD 4 0)
def finI (k : Int) : Option (List Int × List (List UInt8)) → Option (List Int)
  | none => none
  | some (fs, r) => if r = [] ∧ iokL k fs = true then some fs else none
def rdI (i : Nat) (at' : Int) (L : List UInt8 → Option Int) (ws : List (List UInt8)) : Option (List Int) := finI (mk i) (rdTo (mk i) (mf i) at' L ws 5)
/-- The instruction that words say: its kind, and its fields. -/
def rd (at' : Int) (L : List UInt8 → Option Int) (ws : List (List UInt8)) : Option (Int × List Int) :=
  match ws with
  | [] => none
  | w :: r => match kindOf w with
    | none => none
    | some i => match rdI i at' L r with
      | none => none
      | some fs => some (mk i, fs)

/-- The words of a field. -/
def args (h : Nat) (v : Int) : List (List UInt8) := if h = 0 ∨ h = 2 then [] else if h = 1 then [114 :: Lib.itoa v] else [Lib.itoa v]
end Go.Proofs.Ytoacgjjpipdkjaa
