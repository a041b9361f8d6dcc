/- Chapter 3, plainly: an instruction's text, and what a line's words say. -/
import Derived.Test.YtecdmafhjfnloaaGreatDoorCodOkS
import Derived.Test.YtecdmafhjfnloaaGreatDoorTxtNum
import Derived.Test.YtecdmafhjfnloaaGreatDoorTxtSplit
namespace Go.Proofs.YtecdmafhjfnloaaGreatDoor
open Go.RowKit
set_option linter.unusedVariables false

theorem sp_two : ∀ (x y : List UInt8), sp (x ++ 32 :: y) = sp x ++ sp y
  | [], y => by simp [sp]
  | c :: x, y => by
    by_cases h : c = 32
    · subst h; rw [List.cons_append, sp_blank, sp_blank, sp_two x y]; rfl
    · rw [List.cons_append, sp_char h, sp_char h, sp_two x y]
      cases e : sp x with
      | nil => exact absurd e (sp_ne x)
      | cons a t => rfl

/-- The words of instructions: those of what is done with two words first, then by their kinds. -/
def nmL : List (List UInt8) := [[97, 100, 100], [115, 117, 98], [97, 110, 100], [111, 114], [120, 111, 114], [108, 101, 115, 115], [115, 104, 108], [115, 104, 114], [97, 100, 100, 105], [108, 117, 105], [108, 111, 97, 100], [115, 97, 118, 101], [101, 113], [108, 116], [106, 117, 109, 112], [99, 97, 108, 108], [109, 117, 108], [115, 119, 97, 112], [119, 97, 105, 116], [115, 121, 115], [98, 97, 99, 107], [103, 101, 116], [115, 101, 116]]
def nmI (k f : Int) : Nat := if k = 0 then f.toNat else k.toNat + 7
def nm (k f : Int) : List UInt8 := nmL.getD (nmI k f) []
/-- What a field adds to a line. -/
def piece (h : Nat) (v : Int) : List UInt8 := if h = 0 ∨ h = 2 then [] else if h = 1 then 32 :: 114 :: Lib.itoa v else 32 :: Lib.itoa v
def txtTo (k d a b f n : Int) : Nat → List UInt8
  | 0 => nm k f
  | p + 1 => txtTo k d a b f n p ++ piece (layN k p) ((fldL d a b f n).getD p 0)
def txt (k d a b f n : Int) : List UInt8 := txtTo k d a b f n 5

/-- Which word of an instruction a text is. -/
def kindOf (w : List UInt8) : Option Nat := nmL.findIdx? (fun x => x == w)
def mk (i : Nat) : Int := if i < 8 then 0 else (i : Int) - 7
def mf (i : Nat) : Int := if i < 8 then (i : Int) else 0
def regI (x : List UInt8) : Option Int := if x.head? = some 114 then canon x.tail else none
/-- How far a label is from behind a place. -/
def labD (at' : Int) (L : List UInt8 → Option Int) (x : List UInt8) : Option Int := (L x).map (fun t => t - at' - 1)
def dist (k at' : Int) (L : List UInt8 → Option Int) (x : List UInt8) : Option Int :=
  if k = 5 ∨ k = 6 ∨ k = 7 then (labD at' L x).or (canon x) else canon x
def rdV (h : Nat) (k at' : Int) (L : List UInt8 → Option Int) (x : List UInt8) : Option Int := if h = 1 then regI x else if h = 3 then canon x else dist k at' L x
def rdTo (k f at' : Int) (L : List UInt8 → Option Int) (ws : List (List UInt8)) : Nat → Option (List Int × List (List UInt8))
  | 0 => some ([0, 0, 0, f, 0], ws)
  | p + 1 => match rdTo k f at' L ws p with
    | none => none
    | some (fs, ws') => if layN k p = 0 ∨ layN k p = 2 then some (fs, ws') else match ws' with
      | [] => none
      | x :: r => match rdV (layN k p) k at' L x with
        | none => none
        | some v => some (fs.set p v, r)
def iokL (k : Int) (fs : List Int) : Bool := iok k (fs.getD 0 0) (fs.getD 1 0) (fs.getD 2 0) (fs.getD 3 0) (fs.getD 4 0)
def finI (k : Int) : Option (List Int × List (List UInt8)) → Option (List Int)
  | none => none
  | some (fs, r) => if r = [] ∧ iokL k fs = true then some fs else none
def rdI (i : Nat) (at' : Int) (L : List UInt8 → Option Int) (ws : List (List UInt8)) : Option (List Int) := finI (mk i) (rdTo (mk i) (mf i) at' L ws 5)
/-- The instruction that words say: its kind, and its fields. -/
def rd (at' : Int) (L : List UInt8 → Option Int) (ws : List (List UInt8)) : Option (Int × List Int) :=
  match ws with
  | [] => none
  | w :: r => match kindOf w with
    | none => none
    | some i => match rdI i at' L r with
      | none => none
      | some fs => some (mk i, fs)
end Go.Proofs.YtecdmafhjfnloaaGreatDoor
