/- Numerals: what strconv reads of what it wrote; the numbers that a line may hold. No program is named. Words of a line: cut at each single blank, as strings.Split cuts it and as the model does. No program is named. Chapter 3, plainly: an instruction's text, and what a line's words say. Chapter 3, plainly: what an instruction's text says is the instruction; two instructions have two texts. Chapter 3, plainly: the model's way of reading an instruction's words (a register that is none is -1, and a number has five digits at most) says the same. Chapter 3, plainly: labels, lines, and a text's words. -/
import Derived.Lib.AtoiAll
import Derived.Lib.ItoaNum
import Derived.Lib.SplitLaws
import Derived.Test.YtoacgjjpipdkjaaCodOk
namespace Go.Proofs.Ytoacgjjpipdkjaa
open Go
set_option linter.unusedVariables false

/-- What digits spell, behind what stands ahead. -/
@[irreducible] def d1 (acc : Nat) (c : UInt8) : Nat := acc * 10 + (c.toNat - 48)
theorem d1_eq (acc : Nat) (c : UInt8) : d1 acc c = acc * 10 + (c.toNat - 48) := by unfold d1; exact Eq.refl _
/-- The number that a text is, if it is written as numbers are. -/
def canon (l : List UInt8) : Option Int :=
  match Lib.atoiAll l with
  | .ok n => if Lib.itoa n = l then some n else none
  | _ => none
open Go
/-- The words of a line. -/
def sp : List UInt8 → List (List UInt8)
  | [] => [[]]
  | c :: r => if c = 32 then [] :: sp r else match sp r with
    | h :: t => (c :: h) :: t
    | [] => [[c]]
/-- What stands ahead of the first word. -/
def ahead (w : List UInt8) (l : List (List UInt8)) : List (List UInt8) := match l with
  | h :: t => (w ++ h) :: t
  | [] => [w]
/-- The words of instructions: those of what is done with two words first, then by their kinds. -/
def nmL : List (List UInt8) := [[97, 100, 100], [115, 117, 98], [97, 110, 100], [111, 114], [120, 111, 114], [108, 101, 115, 115], [115, 104, 108], [115, 104, 114], [97, 100, 100, 105], [108, 117, 105], [108, 111, 97, 100], [115, 97, 118, 101], [101, 113], [108, 116], [106, 117, 109, 112], [99, 97, 108, 108], [109, 117, 108], [115, 119, 97, 112], [119, 97, 105, 116], [115, 121, 115], [98, 97, 99, 107], [103, 101, 116], [115, 101, 116]]
def nmI (k f : Int) : Nat := if k = 0 then f.toNat else k.toNat + 7
def nm (k f : Int) : List UInt8 := nmL.getD (nmI k f) []
/-- Which word of an instruction a text is. -/
def kindOf (w : List UInt8) : Option Nat := nmL.findIdx? (fun x => x == w)
def mk (i : Nat) : Int := if i < 8 then 0 else (i : Int) - 7
def mf (i : Nat) : Int := if i < 8 then (i : Int) else 0
def regI (x : List UInt8) : Option Int := if x.head? = some 114 then canon x.tail else none
/-- How far a label is from behind a place. -/
def labD (at' : Int) (L : List UInt8 → Option Int) (x : List UInt8) : Option Int := (L x).map (fun t => t - at' - 1)
def dist (k at' : Int) (L : List UInt8 → Option Int) (x : List UInt8) : Option Int :=
  if k = 5 ∨ k = 6 ∨ k = 7 then (labD at' L x).or (canon x) else canon x
def rdV (h : Nat) (k at' : Int) (L : List UInt8 → Option Int) (x : List UInt8) : Option Int := if h = 1 then regI x else if h = 3 then canon x else dist k at' L x
def rdTo (k f at' : Int) (L : List UInt8 → Option Int) (ws : List (List UInt8)) : Nat → Option (List Int × List (List UInt8))
  | 0 => some ([0, 0, 0, f, 0], ws)
  | p + 1 => match rdTo k f at' L ws p with
    | none => none
    | some (fs, ws') => if layN k p = 0 ∨ layN k p = 2 then some (fs, ws') else match ws' with
      | [] => none
      | x :: r => match rdV (layN k p) k at' L x with
        | none => none
        | some v => some (fs.set p v, r)
def iokL (k : Int) (fs : List Int) : Bool := iok k (fs.getD 0 0) (fs.getD 1 0) (fs.getD 2 0) (fs.getD 3 0) (fs.getD 4 0)
def finI (k : Int) : Option (List Int × List (List UInt8)) → Option (List Int)
  | none => none
  | some (fs, r) => if r = [] ∧ iokL k fs = true then some fs else none
def rdI (i : Nat) (at' : Int) (L : List UInt8 → Option Int) (ws : List (List UInt8)) : Option (List Int) := finI (mk i) (rdTo (mk i) (mf i) at' L ws 5)
/-- The instruction that words say: its kind, and its fields. -/
def rd (at' : Int) (L : List UInt8 → Option Int) (ws : List (List UInt8)) : Option (Int × List Int) :=
  match ws with
  | [] => none
  | w :: r => match kindOf w with
    | none => none
    | some i => match rdI i at' L r with
      | none => none
      | some fs => some (mk i, fs)

/-- The words of a field. -/
def args (h : Nat) (v : Int) : List (List UInt8) := if h = 0 ∨ h = 2 then [] else if h = 1 then [114 :: Lib.itoa v] else [Lib.itoa v]
/-- A small letter. -/
def low (c : UInt8) : Bool := decide (97 ≤ c.toNat ∧ c.toNat ≤ 122)
/-- The name of a label, if a line is one. -/
def mark (l : List UInt8) : Option (List UInt8) :=
  if l.getLast? = some 58 ∧ 1 ≤ l.dropLast.length ∧ l.dropLast.length ≤ 6 ∧ l.dropLast.all low = true then some l.dropLast else none
/-- Labels and where they stand, the first ahead. -/
def look (ls : List (List UInt8 × Int)) (x : List UInt8) : Option Int := (ls.find? (fun e => e.1 == x)).map (·.2)
def wordN : List UInt8 := [119, 111, 114, 100]
/-- The word for which a line stands that is no label. -/
def lineV (at' : Int) (L : List UInt8 → Option Int) (l : List UInt8) : Option Int :=
  if 30 < l.length then none else match sp l with
  | [] => none
  | w :: r => if w = wordN then (match r with
      | [x] => match canon x with
        | some n => if 0 ≤ n ∧ n < 65536 then some n else none
        | none => none
      | _ => none)
    else match rd at' L (w :: r) with
      | some (k, fs) => some (worD k (fs.getD 0 0) (fs.getD 1 0) (fs.getD 2 0) (fs.getD 3 0) (fs.getD 4 0))
      | none => none
/-- The words of lines, and the first line that is wrong. -/
def words (L : List UInt8 → Option Int) (tw : Int) : List (List UInt8) → Nat → List Int → List Int × Int
  | [], _, out => (out, 0)
  | x :: r, i, out => if (i : Int) + 1 = tw then ([], tw) else match mark x with
    | some _ => words L tw r (i + 1) out
    | none => match lineV out.length L x with
      | none => ([], (i : Int) + 1)
      | some v => words L tw r (i + 1) (out ++ [v])
end Go.Proofs.Ytoacgjjpipdkjaa
