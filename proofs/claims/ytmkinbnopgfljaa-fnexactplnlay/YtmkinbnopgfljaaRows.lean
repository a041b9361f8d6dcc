/-
  No cell of these rows narrows 'for every input' (looked for: loops, veiled, ifaces, maps, wideKeys, modest, calm, conditions, laid).
  DERIVED. THE GIVEN ROWS OF THIS SEAT. 4 by the template 'for every input the law returns true; each argument reads behind the call as it read before'; 0 by the template 'total and deterministic' (their statements: YtmkinbnopgfljaaTotals.lean).
  GIVEN WITH THE SEED: the statements are not yours to turn. If you find one false, say at which input.
  Laid BY PROGRAM, IN A SANDBOX (cutbox-rows.mjs): the forced cells as the released guide's own fill.sh prints them over the translation 642f520bc526e584… (all of the seat's roots in one cut). By AI agents, Wed Nov 11 2026. No macro, syntax, notation, axiom, sorry.
-/
import Derived.Test.YtmkinbnopgfljaaChecked
import GoSem.Claim
import GoSem.ClaimJoined
import GoSem.ClaimMapViews
import Derived.JoinedTies
import Derived.KernelRfl
namespace Go.Proofs.Ytmkinbnopgfljaa
/- THE CELL 'sum', in the pinned program and in every row, IS THE sha256 OF THE DUMP (.gsa) THAT YtmkinbnopgfljaaProg.lean LOADS. Nothing in Lean hashes anything: it is a label: what it is worth is what the hold of that sum in a sandbox is worth. -/
noncomputable def Try.pinned : Pinned := { name := "ytmkinbnopgfljaa", sum := "642f520bc526e584df38feeb5e3a73063facc53e7d4bdcc1d9e6d52ad7c038fc", checked := Try.checked }
namespace Rows
def none {H : Type} : Left H := { results := [], args := [] }

/-- 'laws.FnExactPlnLay': WHATEVER THE INPUT: true; the input reads as it did. -/
def fnExactPlnLaySpec : ChangeSpec := { name := "fnExactPlnLay", fn := fun _ => fun
  | [d1, d2, d3] => { results := [.lit (.bool true)], args := [d1, d2, d3] }
  | _ => none }
def fnExactPlnLayRow : OpenClaim := { program := "ytmkinbnopgfljaa", sum := "642f520bc526e584df38feeb5e3a73063facc53e7d4bdcc1d9e6d52ad7c038fc", func := "loop.example/harbinger/laws.FnExactPlnLay", spec := "fnExactPlnLay", apart := false }
def FnExactPlnLaySaid : Prop := fnExactPlnLayRow.holds Try.pinned (OpenSpec.ofChange fnExactPlnLaySpec)

/-- ITS FALSE NEIGHBOUR: 'it returns false'. Refute it at one input. -/
def fnExactPlnLayWrong : ChangeSpec := { name := "fnExactPlnLay", fn := fun _ => fun
  | [d1, d2, d3] => { results := [.lit (.bool false)], args := [d1, d2, d3] }
  | _ => none }
def FnExactPlnLayWrongFalsely : Prop := fnExactPlnLayRow.holds Try.pinned (OpenSpec.ofChange fnExactPlnLayWrong)

/-- 'laws.FnPlnOk': WHATEVER THE INPUT: true; the input reads as it did. -/
def fnPlnOkSpec : ChangeSpec := { name := "fnPlnOk", fn := fun _ => fun
  | [d] => { results := [.lit (.bool true)], args := [d] }
  | _ => none }
def fnPlnOkRow : OpenClaim := { program := "ytmkinbnopgfljaa", sum := "642f520bc526e584df38feeb5e3a73063facc53e7d4bdcc1d9e6d52ad7c038fc", func := "loop.example/harbinger/laws.FnPlnOk", spec := "fnPlnOk", recurses := true, apart := false }
def FnPlnOkSaid : Prop := fnPlnOkRow.holds Try.pinned (OpenSpec.ofChange fnPlnOkSpec)

/-- ITS FALSE NEIGHBOUR: 'it returns false'. Refute it at one input. -/
def fnPlnOkWrong : ChangeSpec := { name := "fnPlnOk", fn := fun _ => fun
  | [d] => { results := [.lit (.bool false)], args := [d] }
  | _ => none }
def FnPlnOkWrongFalsely : Prop := fnPlnOkRow.holds Try.pinned (OpenSpec.ofChange fnPlnOkWrong)

/-- 'laws.FnPlnNew': WHATEVER THE INPUT: true; the input reads as it did. -/
def fnPlnNewSpec : ChangeSpec := { name := "fnPlnNew", fn := fun _ => fun
  | [d] => { results := [.lit (.bool true)], args := [d] }
  | _ => none }
def fnPlnNewRow : OpenClaim := { program := "ytmkinbnopgfljaa", sum := "642f520bc526e584df38feeb5e3a73063facc53e7d4bdcc1d9e6d52ad7c038fc", func := "loop.example/harbinger/laws.FnPlnNew", spec := "fnPlnNew", recurses := true, apart := false }
def FnPlnNewSaid : Prop := fnPlnNewRow.holds Try.pinned (OpenSpec.ofChange fnPlnNewSpec)

/-- ITS FALSE NEIGHBOUR: 'it returns false'. Refute it at one input. -/
def fnPlnNewWrong : ChangeSpec := { name := "fnPlnNew", fn := fun _ => fun
  | [d] => { results := [.lit (.bool false)], args := [d] }
  | _ => none }
def FnPlnNewWrongFalsely : Prop := fnPlnNewRow.holds Try.pinned (OpenSpec.ofChange fnPlnNewWrong)

/-- 'laws.FnPlnLay': WHATEVER THE INPUT: true; the input reads as it did. -/
def fnPlnLaySpec : ChangeSpec := { name := "fnPlnLay", fn := fun _ => fun
  | [d1, d2] => { results := [.lit (.bool true)], args := [d1, d2] }
  | _ => none }
def fnPlnLayRow : OpenClaim := { program := "ytmkinbnopgfljaa", sum := "642f520bc526e584df38feeb5e3a73063facc53e7d4bdcc1d9e6d52ad7c038fc", func := "loop.example/harbinger/laws.FnPlnLay", spec := "fnPlnLay", recurses := true, apart := false }
def FnPlnLaySaid : Prop := fnPlnLayRow.holds Try.pinned (OpenSpec.ofChange fnPlnLaySpec)

/-- ITS FALSE NEIGHBOUR: 'it returns false'. Refute it at one input. -/
def fnPlnLayWrong : ChangeSpec := { name := "fnPlnLay", fn := fun _ => fun
  | [d1, d2] => { results := [.lit (.bool false)], args := [d1, d2] }
  | _ => none }
def FnPlnLayWrongFalsely : Prop := fnPlnLayRow.holds Try.pinned (OpenSpec.ofChange fnPlnLayWrong)

/- THE SECOND FORM. 'bulk': how many values and letters a reading holds, each counted each time it is reached (what is shared counts as often as it is met; a slice's spare places count too). A statement '..UptoSaid' is the law's where the arguments, and the package variables that the reading takes, are together of bulk at most 1048576: NARROWER than '..Said'. Prove '..Said' where nothing that the law and all that it calls make is longer than what came in: it says more and counts as full. Else prove '..UptoSaid'. A law counts once. -/
mutual
def uptoBulk {H : Type} : DataW H → Nat
  | .lit (.string bytes) => bytes.length + 1
  | .lit _ => 1
  | .nil => 1
  | .ptr d => uptoBulk d + 1
  | .slice elems spare => uptoBulkAll elems + uptoBulkAll spare + 1
  | .agg parts => uptoBulkAll parts + 1
  | .iface _ d => uptoBulk d + 1
  | .map entries => uptoBulkEntries entries + 1
  | .held _ => 1
def uptoBulkAll {H : Type} : List (DataW H) → Nat
  | [] => 0
  | d :: r => uptoBulk d + uptoBulkAll r
def uptoBulkEntries {H : Type} : List (Lit × DataW H) → Nat
  | [] => 0
  | x :: r => uptoBulkEntry x + uptoBulkEntries r
def uptoBulkEntry {H : Type} : Lit × DataW H → Nat
  | (.string bytes, d) => bytes.length + uptoBulk d + 1
  | (_, d) => uptoBulk d + 1
 end
def uptoSmall : (H : Type) → List (DataW H) → Bool := fun _ ds => decide (uptoBulkAll ds ≤ 1048576)
def OpenSpec.upto (s : _root_.Go.ChangeSpec) : _root_.Go.OpenSpec := { _root_.Go.OpenSpec.ofChange s with cond := some uptoSmall }

/-- 'laws.FnExactPlnLay', WHERE WHAT IT READS IS OF BULK AT MOST 1048576: true; the input reads as it did. -/
def fnExactPlnLayUptoRow : OpenClaim := { program := "ytmkinbnopgfljaa", sum := "642f520bc526e584df38feeb5e3a73063facc53e7d4bdcc1d9e6d52ad7c038fc", func := "loop.example/harbinger/laws.FnExactPlnLay", spec := "fnExactPlnLay", apart := false, narrowed := true }
def FnExactPlnLayUptoSaid : Prop := fnExactPlnLayUptoRow.holds Try.pinned (OpenSpec.upto fnExactPlnLaySpec)

/-- 'laws.FnPlnOk', WHERE WHAT IT READS IS OF BULK AT MOST 1048576: true; the input reads as it did. -/
def fnPlnOkUptoRow : OpenClaim := { program := "ytmkinbnopgfljaa", sum := "642f520bc526e584df38feeb5e3a73063facc53e7d4bdcc1d9e6d52ad7c038fc", func := "loop.example/harbinger/laws.FnPlnOk", spec := "fnPlnOk", recurses := true, apart := false, narrowed := true }
def FnPlnOkUptoSaid : Prop := fnPlnOkUptoRow.holds Try.pinned (OpenSpec.upto fnPlnOkSpec)

/-- 'laws.FnPlnNew', WHERE WHAT IT READS IS OF BULK AT MOST 1048576: true; the input reads as it did. -/
def fnPlnNewUptoRow : OpenClaim := { program := "ytmkinbnopgfljaa", sum := "642f520bc526e584df38feeb5e3a73063facc53e7d4bdcc1d9e6d52ad7c038fc", func := "loop.example/harbinger/laws.FnPlnNew", spec := "fnPlnNew", recurses := true, apart := false, narrowed := true }
def FnPlnNewUptoSaid : Prop := fnPlnNewUptoRow.holds Try.pinned (OpenSpec.upto fnPlnNewSpec)

/-- 'laws.FnPlnLay', WHERE WHAT IT READS IS OF BULK AT MOST 1048576: true; the input reads as it did. -/
def fnPlnLayUptoRow : OpenClaim := { program := "ytmkinbnopgfljaa", sum := "642f520bc526e584df38feeb5e3a73063facc53e7d4bdcc1d9e6d52ad7c038fc", func := "loop.example/harbinger/laws.FnPlnLay", spec := "fnPlnLay", recurses := true, apart := false, narrowed := true }
def FnPlnLayUptoSaid : Prop := fnPlnLayUptoRow.holds Try.pinned (OpenSpec.upto fnPlnLaySpec)

end Rows
end Go.Proofs.Ytmkinbnopgfljaa
