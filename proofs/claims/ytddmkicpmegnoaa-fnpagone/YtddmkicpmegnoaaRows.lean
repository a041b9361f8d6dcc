/-
  No cell of these rows narrows 'for every input' (looked for: loops, veiled, ifaces, maps, wideKeys, modest, calm, conditions, laid).
  DERIVED. THE GIVEN ROWS OF THIS SEAT. 9 by the template 'for every input the law returns true; each argument reads behind the call as it read before'; 0 by the template 'total and deterministic' (their statements: YtddmkicpmegnoaaTotals.lean).
  GIVEN WITH THE SEED: the statements are not yours to turn. If you find one false, say at which input.
  Laid BY PROGRAM, IN A SANDBOX (cutbox-rows.mjs): the forced cells as the released guide's own fill.sh prints them over the translation 0cc67b4adf7a2496… (all of the seat's roots in one cut). By AI agents, Wed Nov 11 2026. No macro, syntax, notation, axiom, sorry.
-/
import Derived.Test.YtddmkicpmegnoaaChecked
import GoSem.Claim
import GoSem.ClaimJoined
import GoSem.ClaimMapViews
import Derived.JoinedTies
import Derived.KernelRfl
namespace Go.Proofs.Ytddmkicpmegnoaa
/- THE CELL 'sum', in the pinned program and in every row, IS THE sha256 OF THE DUMP (.gsa) THAT YtddmkicpmegnoaaProg.lean LOADS. Nothing in Lean hashes anything: it is a label: what it is worth is what the hold of that sum in a sandbox is worth. -/
noncomputable def Try.pinned : Pinned := { name := "ytddmkicpmegnoaa", sum := "0cc67b4adf7a2496a8d90a5cf1de044a82100d0cd4dbaecf2f3c9d71aed6ded6", checked := Try.checked }
namespace Rows
def none {H : Type} : Left H := { results := [], args := [] }

/-- 'laws.FnExactPlnOk': WHATEVER THE INPUT: true; the input reads as it did. -/
def fnExactPlnOkSpec : ChangeSpec := { name := "fnExactPlnOk", fn := fun _ => fun
  | [d] => { results := [.lit (.bool true)], args := [d] }
  | _ => none }
def fnExactPlnOkRow : OpenClaim := { program := "ytddmkicpmegnoaa", sum := "0cc67b4adf7a2496a8d90a5cf1de044a82100d0cd4dbaecf2f3c9d71aed6ded6", func := "loop.example/harbinger/laws.FnExactPlnOk", spec := "fnExactPlnOk", apart := false }
def FnExactPlnOkSaid : Prop := fnExactPlnOkRow.holds Try.pinned (OpenSpec.ofChange fnExactPlnOkSpec)

/-- ITS FALSE NEIGHBOUR: 'it returns false'. Refute it at one input. -/
def fnExactPlnOkWrong : ChangeSpec := { name := "fnExactPlnOk", fn := fun _ => fun
  | [d] => { results := [.lit (.bool false)], args := [d] }
  | _ => none }
def FnExactPlnOkWrongFalsely : Prop := fnExactPlnOkRow.holds Try.pinned (OpenSpec.ofChange fnExactPlnOkWrong)

/-- 'laws.FnExactPlnNew': WHATEVER THE INPUT: true; the input reads as it did. -/
def fnExactPlnNewSpec : ChangeSpec := { name := "fnExactPlnNew", fn := fun _ => fun
  | [d] => { results := [.lit (.bool true)], args := [d] }
  | _ => none }
def fnExactPlnNewRow : OpenClaim := { program := "ytddmkicpmegnoaa", sum := "0cc67b4adf7a2496a8d90a5cf1de044a82100d0cd4dbaecf2f3c9d71aed6ded6", func := "loop.example/harbinger/laws.FnExactPlnNew", spec := "fnExactPlnNew", apart := false }
def FnExactPlnNewSaid : Prop := fnExactPlnNewRow.holds Try.pinned (OpenSpec.ofChange fnExactPlnNewSpec)

/-- ITS FALSE NEIGHBOUR: 'it returns false'. Refute it at one input. -/
def fnExactPlnNewWrong : ChangeSpec := { name := "fnExactPlnNew", fn := fun _ => fun
  | [d] => { results := [.lit (.bool false)], args := [d] }
  | _ => none }
def FnExactPlnNewWrongFalsely : Prop := fnExactPlnNewRow.holds Try.pinned (OpenSpec.ofChange fnExactPlnNewWrong)

/-- 'laws.FnExactPagSee': WHATEVER THE INPUT: true; the input reads as it did. -/
def fnExactPagSeeSpec : ChangeSpec := { name := "fnExactPagSee", fn := fun _ => fun
  | [d1, d2, d3] => { results := [.lit (.bool true)], args := [d1, d2, d3] }
  | _ => none }
def fnExactPagSeeRow : OpenClaim := { program := "ytddmkicpmegnoaa", sum := "0cc67b4adf7a2496a8d90a5cf1de044a82100d0cd4dbaecf2f3c9d71aed6ded6", func := "loop.example/harbinger/laws.FnExactPagSee", spec := "fnExactPagSee", apart := false }
def FnExactPagSeeSaid : Prop := fnExactPagSeeRow.holds Try.pinned (OpenSpec.ofChange fnExactPagSeeSpec)

/-- ITS FALSE NEIGHBOUR: 'it returns false'. Refute it at one input. -/
def fnExactPagSeeWrong : ChangeSpec := { name := "fnExactPagSee", fn := fun _ => fun
  | [d1, d2, d3] => { results := [.lit (.bool false)], args := [d1, d2, d3] }
  | _ => none }
def FnExactPagSeeWrongFalsely : Prop := fnExactPagSeeRow.holds Try.pinned (OpenSpec.ofChange fnExactPagSeeWrong)

/-- 'laws.FnExactPlnLay': WHATEVER THE INPUT: true; the input reads as it did. -/
def fnExactPlnLaySpec : ChangeSpec := { name := "fnExactPlnLay", fn := fun _ => fun
  | [d1, d2, d3] => { results := [.lit (.bool true)], args := [d1, d2, d3] }
  | _ => none }
def fnExactPlnLayRow : OpenClaim := { program := "ytddmkicpmegnoaa", sum := "0cc67b4adf7a2496a8d90a5cf1de044a82100d0cd4dbaecf2f3c9d71aed6ded6", func := "loop.example/harbinger/laws.FnExactPlnLay", spec := "fnExactPlnLay", apart := false }
def FnExactPlnLaySaid : Prop := fnExactPlnLayRow.holds Try.pinned (OpenSpec.ofChange fnExactPlnLaySpec)

/-- ITS FALSE NEIGHBOUR: 'it returns false'. Refute it at one input. -/
def fnExactPlnLayWrong : ChangeSpec := { name := "fnExactPlnLay", fn := fun _ => fun
  | [d1, d2, d3] => { results := [.lit (.bool false)], args := [d1, d2, d3] }
  | _ => none }
def FnExactPlnLayWrongFalsely : Prop := fnExactPlnLayRow.holds Try.pinned (OpenSpec.ofChange fnExactPlnLayWrong)

/-- 'laws.FnPlnOk': WHATEVER THE INPUT: true; the input reads as it did. -/
def fnPlnOkSpec : ChangeSpec := { name := "fnPlnOk", fn := fun _ => fun
  | [d] => { results := [.lit (.bool true)], args := [d] }
  | _ => none }
def fnPlnOkRow : OpenClaim := { program := "ytddmkicpmegnoaa", sum := "0cc67b4adf7a2496a8d90a5cf1de044a82100d0cd4dbaecf2f3c9d71aed6ded6", func := "loop.example/harbinger/laws.FnPlnOk", spec := "fnPlnOk", recurses := true, apart := false }
def FnPlnOkSaid : Prop := fnPlnOkRow.holds Try.pinned (OpenSpec.ofChange fnPlnOkSpec)

/-- ITS FALSE NEIGHBOUR: 'it returns false'. Refute it at one input. -/
def fnPlnOkWrong : ChangeSpec := { name := "fnPlnOk", fn := fun _ => fun
  | [d] => { results := [.lit (.bool false)], args := [d] }
  | _ => none }
def FnPlnOkWrongFalsely : Prop := fnPlnOkRow.holds Try.pinned (OpenSpec.ofChange fnPlnOkWrong)

/-- 'laws.FnPlnNew': WHATEVER THE INPUT: true; the input reads as it did. -/
def fnPlnNewSpec : ChangeSpec := { name := "fnPlnNew", fn := fun _ => fun
  | [d] => { results := [.lit (.bool true)], args := [d] }
  | _ => none }
def fnPlnNewRow : OpenClaim := { program := "ytddmkicpmegnoaa", sum := "0cc67b4adf7a2496a8d90a5cf1de044a82100d0cd4dbaecf2f3c9d71aed6ded6", func := "loop.example/harbinger/laws.FnPlnNew", spec := "fnPlnNew", recurses := true, apart := false }
def FnPlnNewSaid : Prop := fnPlnNewRow.holds Try.pinned (OpenSpec.ofChange fnPlnNewSpec)

/-- ITS FALSE NEIGHBOUR: 'it returns false'. Refute it at one input. -/
def fnPlnNewWrong : ChangeSpec := { name := "fnPlnNew", fn := fun _ => fun
  | [d] => { results := [.lit (.bool false)], args := [d] }
  | _ => none }
def FnPlnNewWrongFalsely : Prop := fnPlnNewRow.holds Try.pinned (OpenSpec.ofChange fnPlnNewWrong)

/-- 'laws.FnPagSee': WHATEVER THE INPUT: true; the input reads as it did. -/
def fnPagSeeSpec : ChangeSpec := { name := "fnPagSee", fn := fun _ => fun
  | [d] => { results := [.lit (.bool true)], args := [d] }
  | _ => none }
def fnPagSeeRow : OpenClaim := { program := "ytddmkicpmegnoaa", sum := "0cc67b4adf7a2496a8d90a5cf1de044a82100d0cd4dbaecf2f3c9d71aed6ded6", func := "loop.example/harbinger/laws.FnPagSee", spec := "fnPagSee", recurses := true, apart := false }
def FnPagSeeSaid : Prop := fnPagSeeRow.holds Try.pinned (OpenSpec.ofChange fnPagSeeSpec)

/-- ITS FALSE NEIGHBOUR: 'it returns false'. Refute it at one input. -/
def fnPagSeeWrong : ChangeSpec := { name := "fnPagSee", fn := fun _ => fun
  | [d] => { results := [.lit (.bool false)], args := [d] }
  | _ => none }
def FnPagSeeWrongFalsely : Prop := fnPagSeeRow.holds Try.pinned (OpenSpec.ofChange fnPagSeeWrong)

/-- 'laws.FnPagOne': WHATEVER THE INPUT: true; the input reads as it did. -/
def fnPagOneSpec : ChangeSpec := { name := "fnPagOne", fn := fun _ => fun
  | [d] => { results := [.lit (.bool true)], args := [d] }
  | _ => none }
def fnPagOneRow : OpenClaim := { program := "ytddmkicpmegnoaa", sum := "0cc67b4adf7a2496a8d90a5cf1de044a82100d0cd4dbaecf2f3c9d71aed6ded6", func := "loop.example/harbinger/laws.FnPagOne", spec := "fnPagOne", recurses := true, apart := false }
def FnPagOneSaid : Prop := fnPagOneRow.holds Try.pinned (OpenSpec.ofChange fnPagOneSpec)

/-- ITS FALSE NEIGHBOUR: 'it returns false'. Refute it at one input. -/
def fnPagOneWrong : ChangeSpec := { name := "fnPagOne", fn := fun _ => fun
  | [d] => { results := [.lit (.bool false)], args := [d] }
  | _ => none }
def FnPagOneWrongFalsely : Prop := fnPagOneRow.holds Try.pinned (OpenSpec.ofChange fnPagOneWrong)

/-- 'laws.FnPlnLay': WHATEVER THE INPUT: true; the input reads as it did. -/
def fnPlnLaySpec : ChangeSpec := { name := "fnPlnLay", fn := fun _ => fun
  | [d1, d2] => { results := [.lit (.bool true)], args := [d1, d2] }
  | _ => none }
def fnPlnLayRow : OpenClaim := { program := "ytddmkicpmegnoaa", sum := "0cc67b4adf7a2496a8d90a5cf1de044a82100d0cd4dbaecf2f3c9d71aed6ded6", func := "loop.example/harbinger/laws.FnPlnLay", spec := "fnPlnLay", recurses := true, apart := false }
def FnPlnLaySaid : Prop := fnPlnLayRow.holds Try.pinned (OpenSpec.ofChange fnPlnLaySpec)

/-- ITS FALSE NEIGHBOUR: 'it returns false'. Refute it at one input. -/
def fnPlnLayWrong : ChangeSpec := { name := "fnPlnLay", fn := fun _ => fun
  | [d1, d2] => { results := [.lit (.bool false)], args := [d1, d2] }
  | _ => none }
def FnPlnLayWrongFalsely : Prop := fnPlnLayRow.holds Try.pinned (OpenSpec.ofChange fnPlnLayWrong)

/- THE SECOND FORM. 'bulk': how many values and letters a reading holds, each counted each time it is reached (what is shared counts as often as it is met; a slice's spare places count too). A statement '..UptoSaid' is the law's where the arguments, and the package variables that the reading takes, are together of bulk at most 1048576: NARROWER than '..Said'. Prove '..Said' where nothing that the law and all that it calls make is longer than what came in: it says more and counts as full. Else prove '..UptoSaid'. A law counts once. -/
mutual
def uptoBulk {H : Type} : DataW H → Nat
  | .lit (.string bytes) => bytes.length + 1
  | .lit _ => 1
  | .nil => 1
  | .ptr d => uptoBulk d + 1
  | .slice elems spare => uptoBulkAll elems + uptoBulkAll spare + 1
  | .agg parts => uptoBulkAll parts + 1
  | .iface _ d => uptoBulk d + 1
  | .map entries => uptoBulkEntries entries + 1
  | .held _ => 1
def uptoBulkAll {H : Type} : List (DataW H) → Nat
  | [] => 0
  | d :: r => uptoBulk d + uptoBulkAll r
def uptoBulkEntries {H : Type} : List (Lit × DataW H) → Nat
  | [] => 0
  | x :: r => uptoBulkEntry x + uptoBulkEntries r
def uptoBulkEntry {H : Type} : Lit × DataW H → Nat
  | (.string bytes, d) => bytes.length + uptoBulk d + 1
  | (_, d) => uptoBulk d + 1
 end
def uptoSmall : (H : Type) → List (DataW H) → Bool := fun _ ds => decide (uptoBulkAll ds ≤ 1048576)
def OpenSpec.upto (s : _root_.Go.ChangeSpec) : _root_.Go.OpenSpec := { _root_.Go.OpenSpec.ofChange s with cond := some uptoSmall }

/-- 'laws.FnExactPlnOk', WHERE WHAT IT READS IS OF BULK AT MOST 1048576: true; the input reads as it did. -/
def fnExactPlnOkUptoRow : OpenClaim := { program := "ytddmkicpmegnoaa", sum := "0cc67b4adf7a2496a8d90a5cf1de044a82100d0cd4dbaecf2f3c9d71aed6ded6", func := "loop.example/harbinger/laws.FnExactPlnOk", spec := "fnExactPlnOk", apart := false, narrowed := true }
def FnExactPlnOkUptoSaid : Prop := fnExactPlnOkUptoRow.holds Try.pinned (OpenSpec.upto fnExactPlnOkSpec)

/-- 'laws.FnExactPlnNew', WHERE WHAT IT READS IS OF BULK AT MOST 1048576: true; the input reads as it did. -/
def fnExactPlnNewUptoRow : OpenClaim := { program := "ytddmkicpmegnoaa", sum := "0cc67b4adf7a2496a8d90a5cf1de044a82100d0cd4dbaecf2f3c9d71aed6ded6", func := "loop.example/harbinger/laws.FnExactPlnNew", spec := "fnExactPlnNew", apart := false, narrowed := true }
def FnExactPlnNewUptoSaid : Prop := fnExactPlnNewUptoRow.holds Try.pinned (OpenSpec.upto fnExactPlnNewSpec)

/-- 'laws.FnExactPagSee', WHERE WHAT IT READS IS OF BULK AT MOST 1048576: true; the input reads as it did. -/
def fnExactPagSeeUptoRow : OpenClaim := { program := "ytddmkicpmegnoaa", sum := "0cc67b4adf7a2496a8d90a5cf1de044a82100d0cd4dbaecf2f3c9d71aed6ded6", func := "loop.example/harbinger/laws.FnExactPagSee", spec := "fnExactPagSee", apart := false, narrowed := true }
def FnExactPagSeeUptoSaid : Prop := fnExactPagSeeUptoRow.holds Try.pinned (OpenSpec.upto fnExactPagSeeSpec)

/-- 'laws.FnExactPlnLay', WHERE WHAT IT READS IS OF BULK AT MOST 1048576: true; the input reads as it did. -/
def fnExactPlnLayUptoRow : OpenClaim := { program := "ytddmkicpmegnoaa", sum := "0cc67b4adf7a2496a8d90a5cf1de044a82100d0cd4dbaecf2f3c9d71aed6ded6", func := "loop.example/harbinger/laws.FnExactPlnLay", spec := "fnExactPlnLay", apart := false, narrowed := true }
def FnExactPlnLayUptoSaid : Prop := fnExactPlnLayUptoRow.holds Try.pinned (OpenSpec.upto fnExactPlnLaySpec)

/-- 'laws.FnPlnOk', WHERE WHAT IT READS IS OF BULK AT MOST 1048576: true; the input reads as it did. -/
def fnPlnOkUptoRow : OpenClaim := { program := "ytddmkicpmegnoaa", sum := "0cc67b4adf7a2496a8d90a5cf1de044a82100d0cd4dbaecf2f3c9d71aed6ded6", func := "loop.example/harbinger/laws.FnPlnOk", spec := "fnPlnOk", recurses := true, apart := false, narrowed := true }
def FnPlnOkUptoSaid : Prop := fnPlnOkUptoRow.holds Try.pinned (OpenSpec.upto fnPlnOkSpec)

/-- 'laws.FnPlnNew', WHERE WHAT IT READS IS OF BULK AT MOST 1048576: true; the input reads as it did. -/
def fnPlnNewUptoRow : OpenClaim := { program := "ytddmkicpmegnoaa", sum := "0cc67b4adf7a2496a8d90a5cf1de044a82100d0cd4dbaecf2f3c9d71aed6ded6", func := "loop.example/harbinger/laws.FnPlnNew", spec := "fnPlnNew", recurses := true, apart := false, narrowed := true }
def FnPlnNewUptoSaid : Prop := fnPlnNewUptoRow.holds Try.pinned (OpenSpec.upto fnPlnNewSpec)

/-- 'laws.FnPagSee', WHERE WHAT IT READS IS OF BULK AT MOST 1048576: true; the input reads as it did. -/
def fnPagSeeUptoRow : OpenClaim := { program := "ytddmkicpmegnoaa", sum := "0cc67b4adf7a2496a8d90a5cf1de044a82100d0cd4dbaecf2f3c9d71aed6ded6", func := "loop.example/harbinger/laws.FnPagSee", spec := "fnPagSee", recurses := true, apart := false, narrowed := true }
def FnPagSeeUptoSaid : Prop := fnPagSeeUptoRow.holds Try.pinned (OpenSpec.upto fnPagSeeSpec)

/-- 'laws.FnPagOne', WHERE WHAT IT READS IS OF BULK AT MOST 1048576: true; the input reads as it did. -/
def fnPagOneUptoRow : OpenClaim := { program := "ytddmkicpmegnoaa", sum := "0cc67b4adf7a2496a8d90a5cf1de044a82100d0cd4dbaecf2f3c9d71aed6ded6", func := "loop.example/harbinger/laws.FnPagOne", spec := "fnPagOne", recurses := true, apart := false, narrowed := true }
def FnPagOneUptoSaid : Prop := fnPagOneUptoRow.holds Try.pinned (OpenSpec.upto fnPagOneSpec)

/-- 'laws.FnPlnLay', WHERE WHAT IT READS IS OF BULK AT MOST 1048576: true; the input reads as it did. -/
def fnPlnLayUptoRow : OpenClaim := { program := "ytddmkicpmegnoaa", sum := "0cc67b4adf7a2496a8d90a5cf1de044a82100d0cd4dbaecf2f3c9d71aed6ded6", func := "loop.example/harbinger/laws.FnPlnLay", spec := "fnPlnLay", recurses := true, apart := false, narrowed := true }
def FnPlnLayUptoSaid : Prop := fnPlnLayUptoRow.holds Try.pinned (OpenSpec.upto fnPlnLaySpec)

end Rows
end Go.Proofs.Ytddmkicpmegnoaa
