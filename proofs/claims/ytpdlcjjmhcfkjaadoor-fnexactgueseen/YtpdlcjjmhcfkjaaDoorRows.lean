/-
  NARROWER THAN 'FOR EVERY INPUT', by the rows' own cells (each row's printed sentence says how): FnExactGueNext: laid · FnExactGueSeen: laid · FnGueNext: laid · FnGueSeen: laid · FnGueLearn: laid.
  DERIVED. THE GIVEN ROWS OF THIS SEAT. 5 by the template 'for every input the law returns true; each argument reads behind the call as it read before'; 0 by the template 'total and deterministic' (their statements: YtpdlcjjmhcfkjaaDoorTotals.lean).
  GIVEN WITH THE SEED: the statements are not yours to turn. If you find one false, say at which input.
  Laid BY PROGRAM, IN A SANDBOX (cutbox-rows.mjs): the forced cells as the released guide's own fill.sh prints them over the translation 87e7900302378673… (all of the seat's roots in one cut). By AI agents, Wed Nov 11 2026. No macro, syntax, notation, axiom, sorry.
-/
import Derived.Test.YtpdlcjjmhcfkjaaDoorChecked
import GoSem.Claim
import GoSem.ClaimJoined
import GoSem.ClaimMapViews
import Derived.JoinedTies
import Derived.KernelRfl
namespace Go.Proofs.YtpdlcjjmhcfkjaaDoor
/- THE CELL 'sum', in the pinned program and in every row, IS THE sha256 OF THE DUMP (.gsa) THAT YtpdlcjjmhcfkjaaDoorProg.lean LOADS. Nothing in Lean hashes anything: it is a label: what it is worth is what the hold of that sum in a sandbox is worth. -/
noncomputable def Tryd.pinned : Pinned := { name := "ytpdlcjjmhcfkjaadoor", sum := "87e79003023786736ff7696a6c0ace9d20435946c78cff82f9a5e748b8ac92e0", checked := Tryd.checked }
namespace Rows
def none {H : Type} : Left H := { results := [], args := [] }

/- WHAT THE LISTED PACKAGE-LEVEL VARIABLES READ AS WHEN THE CALL BEGINS. Each datum BY PROGRAM (the guide's laid-datum.mjs) off the statement by which the dump's own 'gosem.cut.vars' lays the variable. In a bare row this is a premise. The card (YtpdlcjjmhcfkjaaDoorCards.lean) ties it to the program's text. -/
def laid_loop_example_harbinger_impl_encodings {H : Type} : DataW H := .agg [.agg [.lit (.int .i64 0), .lit (.int .i64 0), .lit (.int .i64 0)], .agg [.lit (.int .i64 3), .lit (.int .i64 0), .lit (.int .i64 7)], .agg [.lit (.int .i64 3), .lit (.int .i64 0), .lit (.int .i64 7)], .agg [.lit (.int .i64 3), .lit (.int .i64 0), .lit (.int .i64 4)], .agg [.lit (.int .i64 6), .lit (.int .i64 (-32)), .lit (.int .i64 31)], .agg [.lit (.int .i64 9), .lit (.int .i64 (-256)), .lit (.int .i64 255)], .agg [.lit (.int .i64 9), .lit (.int .i64 0), .lit (.int .i64 511)]]
def laid_loop_example_harbinger_impl_layouts {H : Type} : DataW H := .agg [.agg [.lit (.int .i64 1), .lit (.int .i64 1), .lit (.int .i64 1), .lit (.int .i64 2), .lit (.int .i64 0)], .agg [.lit (.int .i64 1), .lit (.int .i64 1), .lit (.int .i64 0), .lit (.int .i64 0), .lit (.int .i64 4)], .agg [.lit (.int .i64 1), .lit (.int .i64 0), .lit (.int .i64 0), .lit (.int .i64 0), .lit (.int .i64 6)], .agg [.lit (.int .i64 1), .lit (.int .i64 1), .lit (.int .i64 0), .lit (.int .i64 0), .lit (.int .i64 4)], .agg [.lit (.int .i64 0), .lit (.int .i64 1), .lit (.int .i64 1), .lit (.int .i64 0), .lit (.int .i64 4)], .agg [.lit (.int .i64 0), .lit (.int .i64 1), .lit (.int .i64 1), .lit (.int .i64 0), .lit (.int .i64 4)], .agg [.lit (.int .i64 0), .lit (.int .i64 1), .lit (.int .i64 1), .lit (.int .i64 0), .lit (.int .i64 4)], .agg [.lit (.int .i64 1), .lit (.int .i64 0), .lit (.int .i64 0), .lit (.int .i64 0), .lit (.int .i64 5)], .agg [.lit (.int .i64 1), .lit (.int .i64 1), .lit (.int .i64 0), .lit (.int .i64 0), .lit (.int .i64 4)], .agg [.lit (.int .i64 1), .lit (.int .i64 1), .lit (.int .i64 1), .lit (.int .i64 0), .lit (.int .i64 0)], .agg [.lit (.int .i64 1), .lit (.int .i64 1), .lit (.int .i64 1), .lit (.int .i64 0), .lit (.int .i64 0)], .agg [.lit (.int .i64 0), .lit (.int .i64 0), .lit (.int .i64 0), .lit (.int .i64 0), .lit (.int .i64 0)], .agg [.lit (.int .i64 0), .lit (.int .i64 0), .lit (.int .i64 0), .lit (.int .i64 0), .lit (.int .i64 6)], .agg [.lit (.int .i64 0), .lit (.int .i64 0), .lit (.int .i64 0), .lit (.int .i64 0), .lit (.int .i64 0)], .agg [.lit (.int .i64 1), .lit (.int .i64 0), .lit (.int .i64 0), .lit (.int .i64 3), .lit (.int .i64 0)], .agg [.lit (.int .i64 0), .lit (.int .i64 1), .lit (.int .i64 0), .lit (.int .i64 3), .lit (.int .i64 0)]]

/-- 'laws.FnExactGueNext': WHATEVER THE INPUT: true; the input reads as it did. -/
def fnExactGueNextSpec : ChangeSpec := { name := "fnExactGueNext", vars := ["loop.example/harbinger/impl.layouts", "loop.example/harbinger/impl.encodings"], fn := fun _ => fun
  | [d1, d2, d3, g1, g2] => { results := [.lit (.bool true)], args := [d1, d2, d3], vars := [g1, g2] }
  | _ => none }
def fnExactGueNextRow : OpenClaim := { program := "ytpdlcjjmhcfkjaadoor", sum := "87e79003023786736ff7696a6c0ace9d20435946c78cff82f9a5e748b8ac92e0", func := "loop.example/harbinger/laws.FnExactGueNext", spec := "fnExactGueNext", named := ["loop.example/harbinger/impl.layouts", "loop.example/harbinger/impl.encodings"], apart := false, laid := [("loop.example/harbinger/impl.encodings", laid_loop_example_harbinger_impl_encodings), ("loop.example/harbinger/impl.layouts", laid_loop_example_harbinger_impl_layouts)] }
def FnExactGueNextSaid : Prop := fnExactGueNextRow.holds Tryd.pinned (OpenSpec.ofChange fnExactGueNextSpec)

/-- ITS FALSE NEIGHBOUR: 'it returns false'. Refute it at one input. -/
def fnExactGueNextWrong : ChangeSpec := { name := "fnExactGueNext", vars := ["loop.example/harbinger/impl.layouts", "loop.example/harbinger/impl.encodings"], fn := fun _ => fun
  | [d1, d2, d3, g1, g2] => { results := [.lit (.bool false)], args := [d1, d2, d3], vars := [g1, g2] }
  | _ => none }
def FnExactGueNextWrongFalsely : Prop := fnExactGueNextRow.holds Tryd.pinned (OpenSpec.ofChange fnExactGueNextWrong)

/-- 'laws.FnExactGueSeen': WHATEVER THE INPUT: true; the input reads as it did. -/
def fnExactGueSeenSpec : ChangeSpec := { name := "fnExactGueSeen", vars := ["loop.example/harbinger/impl.layouts", "loop.example/harbinger/impl.encodings"], fn := fun _ => fun
  | [d1, d2, d3, g1, g2] => { results := [.lit (.bool true)], args := [d1, d2, d3], vars := [g1, g2] }
  | _ => none }
def fnExactGueSeenRow : OpenClaim := { program := "ytpdlcjjmhcfkjaadoor", sum := "87e79003023786736ff7696a6c0ace9d20435946c78cff82f9a5e748b8ac92e0", func := "loop.example/harbinger/laws.FnExactGueSeen", spec := "fnExactGueSeen", named := ["loop.example/harbinger/impl.layouts", "loop.example/harbinger/impl.encodings"], apart := false, laid := [("loop.example/harbinger/impl.encodings", laid_loop_example_harbinger_impl_encodings), ("loop.example/harbinger/impl.layouts", laid_loop_example_harbinger_impl_layouts)] }
def FnExactGueSeenSaid : Prop := fnExactGueSeenRow.holds Tryd.pinned (OpenSpec.ofChange fnExactGueSeenSpec)

/-- ITS FALSE NEIGHBOUR: 'it returns false'. Refute it at one input. -/
def fnExactGueSeenWrong : ChangeSpec := { name := "fnExactGueSeen", vars := ["loop.example/harbinger/impl.layouts", "loop.example/harbinger/impl.encodings"], fn := fun _ => fun
  | [d1, d2, d3, g1, g2] => { results := [.lit (.bool false)], args := [d1, d2, d3], vars := [g1, g2] }
  | _ => none }
def FnExactGueSeenWrongFalsely : Prop := fnExactGueSeenRow.holds Tryd.pinned (OpenSpec.ofChange fnExactGueSeenWrong)

/-- 'laws.FnGueNext': WHATEVER THE INPUT: true; the input reads as it did. -/
def fnGueNextSpec : ChangeSpec := { name := "fnGueNext", vars := ["loop.example/harbinger/impl.layouts", "loop.example/harbinger/impl.encodings"], fn := fun _ => fun
  | [d, g1, g2] => { results := [.lit (.bool true)], args := [d], vars := [g1, g2] }
  | _ => none }
def fnGueNextRow : OpenClaim := { program := "ytpdlcjjmhcfkjaadoor", sum := "87e79003023786736ff7696a6c0ace9d20435946c78cff82f9a5e748b8ac92e0", func := "loop.example/harbinger/laws.FnGueNext", spec := "fnGueNext", named := ["loop.example/harbinger/impl.layouts", "loop.example/harbinger/impl.encodings"], apart := false, laid := [("loop.example/harbinger/impl.encodings", laid_loop_example_harbinger_impl_encodings), ("loop.example/harbinger/impl.layouts", laid_loop_example_harbinger_impl_layouts)] }
def FnGueNextSaid : Prop := fnGueNextRow.holds Tryd.pinned (OpenSpec.ofChange fnGueNextSpec)

/-- ITS FALSE NEIGHBOUR: 'it returns false'. Refute it at one input. -/
def fnGueNextWrong : ChangeSpec := { name := "fnGueNext", vars := ["loop.example/harbinger/impl.layouts", "loop.example/harbinger/impl.encodings"], fn := fun _ => fun
  | [d, g1, g2] => { results := [.lit (.bool false)], args := [d], vars := [g1, g2] }
  | _ => none }
def FnGueNextWrongFalsely : Prop := fnGueNextRow.holds Tryd.pinned (OpenSpec.ofChange fnGueNextWrong)

/-- 'laws.FnGueSeen': WHATEVER THE INPUT: true; the input reads as it did. -/
def fnGueSeenSpec : ChangeSpec := { name := "fnGueSeen", vars := ["loop.example/harbinger/impl.layouts", "loop.example/harbinger/impl.encodings"], fn := fun _ => fun
  | [d, g1, g2] => { results := [.lit (.bool true)], args := [d], vars := [g1, g2] }
  | _ => none }
def fnGueSeenRow : OpenClaim := { program := "ytpdlcjjmhcfkjaadoor", sum := "87e79003023786736ff7696a6c0ace9d20435946c78cff82f9a5e748b8ac92e0", func := "loop.example/harbinger/laws.FnGueSeen", spec := "fnGueSeen", named := ["loop.example/harbinger/impl.layouts", "loop.example/harbinger/impl.encodings"], apart := false, laid := [("loop.example/harbinger/impl.encodings", laid_loop_example_harbinger_impl_encodings), ("loop.example/harbinger/impl.layouts", laid_loop_example_harbinger_impl_layouts)] }
def FnGueSeenSaid : Prop := fnGueSeenRow.holds Tryd.pinned (OpenSpec.ofChange fnGueSeenSpec)

/-- ITS FALSE NEIGHBOUR: 'it returns false'. Refute it at one input. -/
def fnGueSeenWrong : ChangeSpec := { name := "fnGueSeen", vars := ["loop.example/harbinger/impl.layouts", "loop.example/harbinger/impl.encodings"], fn := fun _ => fun
  | [d, g1, g2] => { results := [.lit (.bool false)], args := [d], vars := [g1, g2] }
  | _ => none }
def FnGueSeenWrongFalsely : Prop := fnGueSeenRow.holds Tryd.pinned (OpenSpec.ofChange fnGueSeenWrong)

/-- 'laws.FnGueLearn': WHATEVER THE INPUT: true; the input reads as it did. -/
def fnGueLearnSpec : ChangeSpec := { name := "fnGueLearn", vars := ["loop.example/harbinger/impl.layouts", "loop.example/harbinger/impl.encodings"], fn := fun _ => fun
  | [d, g1, g2] => { results := [.lit (.bool true)], args := [d], vars := [g1, g2] }
  | _ => none }
def fnGueLearnRow : OpenClaim := { program := "ytpdlcjjmhcfkjaadoor", sum := "87e79003023786736ff7696a6c0ace9d20435946c78cff82f9a5e748b8ac92e0", func := "loop.example/harbinger/laws.FnGueLearn", spec := "fnGueLearn", named := ["loop.example/harbinger/impl.layouts", "loop.example/harbinger/impl.encodings"], apart := false, laid := [("loop.example/harbinger/impl.encodings", laid_loop_example_harbinger_impl_encodings), ("loop.example/harbinger/impl.layouts", laid_loop_example_harbinger_impl_layouts)] }
def FnGueLearnSaid : Prop := fnGueLearnRow.holds Tryd.pinned (OpenSpec.ofChange fnGueLearnSpec)

/-- ITS FALSE NEIGHBOUR: 'it returns false'. Refute it at one input. -/
def fnGueLearnWrong : ChangeSpec := { name := "fnGueLearn", vars := ["loop.example/harbinger/impl.layouts", "loop.example/harbinger/impl.encodings"], fn := fun _ => fun
  | [d, g1, g2] => { results := [.lit (.bool false)], args := [d], vars := [g1, g2] }
  | _ => none }
def FnGueLearnWrongFalsely : Prop := fnGueLearnRow.holds Tryd.pinned (OpenSpec.ofChange fnGueLearnWrong)

/- THE SECOND FORM. 'bulk': how many values and letters a reading holds, each counted each time it is reached (what is shared counts as often as it is met; a slice's spare places count too). A statement '..UptoSaid' is the law's where the arguments, and the package variables that the reading takes, are together of bulk at most 1048576: NARROWER than '..Said'. Prove '..Said' where nothing that the law and all that it calls make is longer than what came in: it says more and counts as full. Else prove '..UptoSaid'. A law counts once. -/
mutual
def uptoBulk {H : Type} : DataW H → Nat
  | .lit (.string bytes) => bytes.length + 1
  | .lit _ => 1
  | .nil => 1
  | .ptr d => uptoBulk d + 1
  | .slice elems spare => uptoBulkAll elems + uptoBulkAll spare + 1
  | .agg parts => uptoBulkAll parts + 1
  | .iface _ d => uptoBulk d + 1
  | .map entries => uptoBulkEntries entries + 1
  | .held _ => 1
def uptoBulkAll {H : Type} : List (DataW H) → Nat
  | [] => 0
  | d :: r => uptoBulk d + uptoBulkAll r
def uptoBulkEntries {H : Type} : List (Lit × DataW H) → Nat
  | [] => 0
  | x :: r => uptoBulkEntry x + uptoBulkEntries r
def uptoBulkEntry {H : Type} : Lit × DataW H → Nat
  | (.string bytes, d) => bytes.length + uptoBulk d + 1
  | (_, d) => uptoBulk d + 1
 end
def uptoSmall : (H : Type) → List (DataW H) → Bool := fun _ ds => decide (uptoBulkAll ds ≤ 1048576)
def OpenSpec.upto (s : _root_.Go.ChangeSpec) : _root_.Go.OpenSpec := { _root_.Go.OpenSpec.ofChange s with cond := some uptoSmall }

/-- 'laws.FnExactGueNext', WHERE WHAT IT READS IS OF BULK AT MOST 1048576: true; the input reads as it did. -/
def fnExactGueNextUptoRow : OpenClaim := { program := "ytpdlcjjmhcfkjaadoor", sum := "87e79003023786736ff7696a6c0ace9d20435946c78cff82f9a5e748b8ac92e0", func := "loop.example/harbinger/laws.FnExactGueNext", spec := "fnExactGueNext", named := ["loop.example/harbinger/impl.layouts", "loop.example/harbinger/impl.encodings"], apart := false, laid := [("loop.example/harbinger/impl.encodings", laid_loop_example_harbinger_impl_encodings), ("loop.example/harbinger/impl.layouts", laid_loop_example_harbinger_impl_layouts)], narrowed := true }
def FnExactGueNextUptoSaid : Prop := fnExactGueNextUptoRow.holds Tryd.pinned (OpenSpec.upto fnExactGueNextSpec)

/-- 'laws.FnExactGueSeen', WHERE WHAT IT READS IS OF BULK AT MOST 1048576: true; the input reads as it did. -/
def fnExactGueSeenUptoRow : OpenClaim := { program := "ytpdlcjjmhcfkjaadoor", sum := "87e79003023786736ff7696a6c0ace9d20435946c78cff82f9a5e748b8ac92e0", func := "loop.example/harbinger/laws.FnExactGueSeen", spec := "fnExactGueSeen", named := ["loop.example/harbinger/impl.layouts", "loop.example/harbinger/impl.encodings"], apart := false, laid := [("loop.example/harbinger/impl.encodings", laid_loop_example_harbinger_impl_encodings), ("loop.example/harbinger/impl.layouts", laid_loop_example_harbinger_impl_layouts)], narrowed := true }
def FnExactGueSeenUptoSaid : Prop := fnExactGueSeenUptoRow.holds Tryd.pinned (OpenSpec.upto fnExactGueSeenSpec)

/-- 'laws.FnGueNext', WHERE WHAT IT READS IS OF BULK AT MOST 1048576: true; the input reads as it did. -/
def fnGueNextUptoRow : OpenClaim := { program := "ytpdlcjjmhcfkjaadoor", sum := "87e79003023786736ff7696a6c0ace9d20435946c78cff82f9a5e748b8ac92e0", func := "loop.example/harbinger/laws.FnGueNext", spec := "fnGueNext", named := ["loop.example/harbinger/impl.layouts", "loop.example/harbinger/impl.encodings"], apart := false, laid := [("loop.example/harbinger/impl.encodings", laid_loop_example_harbinger_impl_encodings), ("loop.example/harbinger/impl.layouts", laid_loop_example_harbinger_impl_layouts)], narrowed := true }
def FnGueNextUptoSaid : Prop := fnGueNextUptoRow.holds Tryd.pinned (OpenSpec.upto fnGueNextSpec)

/-- 'laws.FnGueSeen', WHERE WHAT IT READS IS OF BULK AT MOST 1048576: true; the input reads as it did. -/
def fnGueSeenUptoRow : OpenClaim := { program := "ytpdlcjjmhcfkjaadoor", sum := "87e79003023786736ff7696a6c0ace9d20435946c78cff82f9a5e748b8ac92e0", func := "loop.example/harbinger/laws.FnGueSeen", spec := "fnGueSeen", named := ["loop.example/harbinger/impl.layouts", "loop.example/harbinger/impl.encodings"], apart := false, laid := [("loop.example/harbinger/impl.encodings", laid_loop_example_harbinger_impl_encodings), ("loop.example/harbinger/impl.layouts", laid_loop_example_harbinger_impl_layouts)], narrowed := true }
def FnGueSeenUptoSaid : Prop := fnGueSeenUptoRow.holds Tryd.pinned (OpenSpec.upto fnGueSeenSpec)

/-- 'laws.FnGueLearn', WHERE WHAT IT READS IS OF BULK AT MOST 1048576: true; the input reads as it did. -/
def fnGueLearnUptoRow : OpenClaim := { program := "ytpdlcjjmhcfkjaadoor", sum := "87e79003023786736ff7696a6c0ace9d20435946c78cff82f9a5e748b8ac92e0", func := "loop.example/harbinger/laws.FnGueLearn", spec := "fnGueLearn", named := ["loop.example/harbinger/impl.layouts", "loop.example/harbinger/impl.encodings"], apart := false, laid := [("loop.example/harbinger/impl.encodings", laid_loop_example_harbinger_impl_encodings), ("loop.example/harbinger/impl.layouts", laid_loop_example_harbinger_impl_layouts)], narrowed := true }
def FnGueLearnUptoSaid : Prop := fnGueLearnUptoRow.holds Tryd.pinned (OpenSpec.upto fnGueLearnSpec)

end Rows
end Go.Proofs.YtpdlcjjmhcfkjaaDoor
