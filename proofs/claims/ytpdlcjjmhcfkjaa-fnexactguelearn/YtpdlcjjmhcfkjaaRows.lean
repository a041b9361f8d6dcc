/-
  No cell of these rows narrows 'for every input' (looked for: loops, veiled, ifaces, maps, wideKeys, modest, calm, conditions, laid).
  DERIVED. THE GIVEN ROWS OF THIS SEAT. 4 by the template 'for every input the law returns true; each argument reads behind the call as it read before'; 0 by the template 'total and deterministic' (their statements: YtpdlcjjmhcfkjaaTotals.lean).
  GIVEN WITH THE SEED: the statements are not yours to turn. If you find one false, say at which input.
  Laid BY PROGRAM, IN A SANDBOX (cutbox-rows.mjs): the forced cells as the released guide's own fill.sh prints them over the translation 47411889428274f5… (all of the seat's roots in one cut). By AI agents, Wed Nov 11 2026. No macro, syntax, notation, axiom, sorry.
-/
import Derived.Test.YtpdlcjjmhcfkjaaChecked
import GoSem.Claim
import GoSem.ClaimJoined
import GoSem.ClaimMapViews
import Derived.JoinedTies
import Derived.KernelRfl
namespace Go.Proofs.Ytpdlcjjmhcfkjaa
/- THE CELL 'sum', in the pinned program and in every row, IS THE sha256 OF THE DUMP (.gsa) THAT YtpdlcjjmhcfkjaaProg.lean LOADS. Nothing in Lean hashes anything: it is a label: what it is worth is what the hold of that sum in a sandbox is worth. -/
noncomputable def Try.pinned : Pinned := { name := "ytpdlcjjmhcfkjaa", sum := "47411889428274f583aa6860ed04b6f1e65a92a0dc05b8097b2c114ad0ec327a", checked := Try.checked }
namespace Rows
def none {H : Type} : Left H := { results := [], args := [] }

/-- 'laws.FnExactGueNew': WHATEVER THE INPUT: true; the input reads as it did. -/
def fnExactGueNewSpec : ChangeSpec := { name := "fnExactGueNew", fn := fun _ => fun
  | [] => { results := [.lit (.bool true)], args := [] }
  | _ => none }
def fnExactGueNewRow : OpenClaim := { program := "ytpdlcjjmhcfkjaa", sum := "47411889428274f583aa6860ed04b6f1e65a92a0dc05b8097b2c114ad0ec327a", func := "loop.example/harbinger/laws.FnExactGueNew", spec := "fnExactGueNew", apart := false }
def FnExactGueNewSaid : Prop := fnExactGueNewRow.holds Try.pinned (OpenSpec.ofChange fnExactGueNewSpec)

/-- ITS FALSE NEIGHBOUR: 'it returns false'. Refute it at one input. -/
def fnExactGueNewWrong : ChangeSpec := { name := "fnExactGueNew", fn := fun _ => fun
  | [] => { results := [.lit (.bool false)], args := [] }
  | _ => none }
def FnExactGueNewWrongFalsely : Prop := fnExactGueNewRow.holds Try.pinned (OpenSpec.ofChange fnExactGueNewWrong)

/-- 'laws.FnExactGueOk': WHATEVER THE INPUT: true; the input reads as it did. -/
def fnExactGueOkSpec : ChangeSpec := { name := "fnExactGueOk", fn := fun _ => fun
  | [d] => { results := [.lit (.bool true)], args := [d] }
  | _ => none }
def fnExactGueOkRow : OpenClaim := { program := "ytpdlcjjmhcfkjaa", sum := "47411889428274f583aa6860ed04b6f1e65a92a0dc05b8097b2c114ad0ec327a", func := "loop.example/harbinger/laws.FnExactGueOk", spec := "fnExactGueOk", apart := false }
def FnExactGueOkSaid : Prop := fnExactGueOkRow.holds Try.pinned (OpenSpec.ofChange fnExactGueOkSpec)

/-- ITS FALSE NEIGHBOUR: 'it returns false'. Refute it at one input. -/
def fnExactGueOkWrong : ChangeSpec := { name := "fnExactGueOk", fn := fun _ => fun
  | [d] => { results := [.lit (.bool false)], args := [d] }
  | _ => none }
def FnExactGueOkWrongFalsely : Prop := fnExactGueOkRow.holds Try.pinned (OpenSpec.ofChange fnExactGueOkWrong)

/-- 'laws.FnExactGueLearn': WHATEVER THE INPUT: true; the input reads as it did. -/
def fnExactGueLearnSpec : ChangeSpec := { name := "fnExactGueLearn", fn := fun _ => fun
  | [d1, d2, d3] => { results := [.lit (.bool true)], args := [d1, d2, d3] }
  | _ => none }
def fnExactGueLearnRow : OpenClaim := { program := "ytpdlcjjmhcfkjaa", sum := "47411889428274f583aa6860ed04b6f1e65a92a0dc05b8097b2c114ad0ec327a", func := "loop.example/harbinger/laws.FnExactGueLearn", spec := "fnExactGueLearn", apart := false }
def FnExactGueLearnSaid : Prop := fnExactGueLearnRow.holds Try.pinned (OpenSpec.ofChange fnExactGueLearnSpec)

/-- ITS FALSE NEIGHBOUR: 'it returns false'. Refute it at one input. -/
def fnExactGueLearnWrong : ChangeSpec := { name := "fnExactGueLearn", fn := fun _ => fun
  | [d1, d2, d3] => { results := [.lit (.bool false)], args := [d1, d2, d3] }
  | _ => none }
def FnExactGueLearnWrongFalsely : Prop := fnExactGueLearnRow.holds Try.pinned (OpenSpec.ofChange fnExactGueLearnWrong)

/-- 'laws.FnGueOk': WHATEVER THE INPUT: true; the input reads as it did. -/
def fnGueOkSpec : ChangeSpec := { name := "fnGueOk", fn := fun _ => fun
  | [d] => { results := [.lit (.bool true)], args := [d] }
  | _ => none }
def fnGueOkRow : OpenClaim := { program := "ytpdlcjjmhcfkjaa", sum := "47411889428274f583aa6860ed04b6f1e65a92a0dc05b8097b2c114ad0ec327a", func := "loop.example/harbinger/laws.FnGueOk", spec := "fnGueOk", apart := false }
def FnGueOkSaid : Prop := fnGueOkRow.holds Try.pinned (OpenSpec.ofChange fnGueOkSpec)

/-- ITS FALSE NEIGHBOUR: 'it returns false'. Refute it at one input. -/
def fnGueOkWrong : ChangeSpec := { name := "fnGueOk", fn := fun _ => fun
  | [d] => { results := [.lit (.bool false)], args := [d] }
  | _ => none }
def FnGueOkWrongFalsely : Prop := fnGueOkRow.holds Try.pinned (OpenSpec.ofChange fnGueOkWrong)

/- THE SECOND FORM. 'bulk': how many values and letters a reading holds, each counted each time it is reached (what is shared counts as often as it is met; a slice's spare places count too). A statement '..UptoSaid' is the law's where the arguments, and the package variables that the reading takes, are together of bulk at most 1048576: NARROWER than '..Said'. Prove '..Said' where nothing that the law and all that it calls make is longer than what came in: it says more and counts as full. Else prove '..UptoSaid'. A law counts once. -/
mutual
def uptoBulk {H : Type} : DataW H → Nat
  | .lit (.string bytes) => bytes.length + 1
  | .lit _ => 1
  | .nil => 1
  | .ptr d => uptoBulk d + 1
  | .slice elems spare => uptoBulkAll elems + uptoBulkAll spare + 1
  | .agg parts => uptoBulkAll parts + 1
  | .iface _ d => uptoBulk d + 1
  | .map entries => uptoBulkEntries entries + 1
  | .held _ => 1
def uptoBulkAll {H : Type} : List (DataW H) → Nat
  | [] => 0
  | d :: r => uptoBulk d + uptoBulkAll r
def uptoBulkEntries {H : Type} : List (Lit × DataW H) → Nat
  | [] => 0
  | x :: r => uptoBulkEntry x + uptoBulkEntries r
def uptoBulkEntry {H : Type} : Lit × DataW H → Nat
  | (.string bytes, d) => bytes.length + uptoBulk d + 1
  | (_, d) => uptoBulk d + 1
 end
def uptoSmall : (H : Type) → List (DataW H) → Bool := fun _ ds => decide (uptoBulkAll ds ≤ 1048576)
def OpenSpec.upto (s : _root_.Go.ChangeSpec) : _root_.Go.OpenSpec := { _root_.Go.OpenSpec.ofChange s with cond := some uptoSmall }

/-- 'laws.FnExactGueNew', WHERE WHAT IT READS IS OF BULK AT MOST 1048576: true; the input reads as it did. -/
def fnExactGueNewUptoRow : OpenClaim := { program := "ytpdlcjjmhcfkjaa", sum := "47411889428274f583aa6860ed04b6f1e65a92a0dc05b8097b2c114ad0ec327a", func := "loop.example/harbinger/laws.FnExactGueNew", spec := "fnExactGueNew", apart := false, narrowed := true }
def FnExactGueNewUptoSaid : Prop := fnExactGueNewUptoRow.holds Try.pinned (OpenSpec.upto fnExactGueNewSpec)

/-- 'laws.FnExactGueOk', WHERE WHAT IT READS IS OF BULK AT MOST 1048576: true; the input reads as it did. -/
def fnExactGueOkUptoRow : OpenClaim := { program := "ytpdlcjjmhcfkjaa", sum := "47411889428274f583aa6860ed04b6f1e65a92a0dc05b8097b2c114ad0ec327a", func := "loop.example/harbinger/laws.FnExactGueOk", spec := "fnExactGueOk", apart := false, narrowed := true }
def FnExactGueOkUptoSaid : Prop := fnExactGueOkUptoRow.holds Try.pinned (OpenSpec.upto fnExactGueOkSpec)

/-- 'laws.FnExactGueLearn', WHERE WHAT IT READS IS OF BULK AT MOST 1048576: true; the input reads as it did. -/
def fnExactGueLearnUptoRow : OpenClaim := { program := "ytpdlcjjmhcfkjaa", sum := "47411889428274f583aa6860ed04b6f1e65a92a0dc05b8097b2c114ad0ec327a", func := "loop.example/harbinger/laws.FnExactGueLearn", spec := "fnExactGueLearn", apart := false, narrowed := true }
def FnExactGueLearnUptoSaid : Prop := fnExactGueLearnUptoRow.holds Try.pinned (OpenSpec.upto fnExactGueLearnSpec)

/-- 'laws.FnGueOk', WHERE WHAT IT READS IS OF BULK AT MOST 1048576: true; the input reads as it did. -/
def fnGueOkUptoRow : OpenClaim := { program := "ytpdlcjjmhcfkjaa", sum := "47411889428274f583aa6860ed04b6f1e65a92a0dc05b8097b2c114ad0ec327a", func := "loop.example/harbinger/laws.FnGueOk", spec := "fnGueOk", apart := false, narrowed := true }
def FnGueOkUptoSaid : Prop := fnGueOkUptoRow.holds Try.pinned (OpenSpec.upto fnGueOkSpec)

end Rows
end Go.Proofs.Ytpdlcjjmhcfkjaa
