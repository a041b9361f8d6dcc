/-
  NARROWER THAN 'FOR EVERY INPUT', by the rows' own cells (each row's printed sentence says how): FnCodOk: laid · FnCodWord: laid · FnCodUses: laid · FnExactCodOk: laid · FnExactCodWord: laid · FnExactCodRead: laid · FnExactCodUses: laid · FnExactCodGives: laid.
  DERIVED. THE GIVEN ROWS OF THIS SEAT. 8 by the template 'for every input the law returns true; each argument reads behind the call as it read before'; 0 by the template 'total and deterministic' (their statements: YtlnpileicdggiaaDoorTotals.lean).
  GIVEN WITH THE SEED: the statements are not yours to turn. If you find one false, say at which input.
  Laid BY PROGRAM, IN A SANDBOX (cutbox-rows.mjs): the forced cells as the released guide's own fill.sh prints them over the translation f1bb818b2b23be57… (all of the seat's roots in one cut). By AI agents, Wed Nov 11 2026. No macro, syntax, notation, axiom, sorry.
-/
import Derived.Test.YtlnpileicdggiaaDoorChecked
import GoSem.Claim
import GoSem.ClaimJoined
import GoSem.ClaimMapViews
import Derived.JoinedTies
import Derived.KernelRfl
namespace Go.Proofs.YtlnpileicdggiaaDoor
/- THE CELL 'sum', in the pinned program and in every row, IS THE sha256 OF THE DUMP (.gsa) THAT YtlnpileicdggiaaDoorProg.lean LOADS. Nothing in Lean hashes anything: it is a label: what it is worth is what the hold of that sum in a sandbox is worth. -/
noncomputable def Tryd.pinned : Pinned := { name := "ytlnpileicdggiaadoor", sum := "f1bb818b2b23be57dac49f8d2143e8d04dd55b7628a3c252a5753958f6311899", checked := Tryd.checked }
namespace Rows
def none {H : Type} : Left H := { results := [], args := [] }

/- WHAT THE LISTED PACKAGE-LEVEL VARIABLES READ AS WHEN THE CALL BEGINS. Each datum BY PROGRAM (the guide's laid-datum.mjs) off the statement by which the dump's own 'gosem.cut.vars' lays the variable. In a bare row this is a premise. The card (YtlnpileicdggiaaDoorCards.lean) ties it to the program's text. -/
def laid_loop_example_harbinger_impl_encodings {H : Type} : DataW H := .agg [.agg [.lit (.int .i64 0), .lit (.int .i64 0), .lit (.int .i64 0)], .agg [.lit (.int .i64 3), .lit (.int .i64 0), .lit (.int .i64 7)], .agg [.lit (.int .i64 3), .lit (.int .i64 0), .lit (.int .i64 7)], .agg [.lit (.int .i64 3), .lit (.int .i64 0), .lit (.int .i64 4)], .agg [.lit (.int .i64 6), .lit (.int .i64 (-32)), .lit (.int .i64 31)], .agg [.lit (.int .i64 9), .lit (.int .i64 (-256)), .lit (.int .i64 255)], .agg [.lit (.int .i64 9), .lit (.int .i64 0), .lit (.int .i64 511)]]
def laid_loop_example_harbinger_impl_layouts {H : Type} : DataW H := .agg [.agg [.lit (.int .i64 1), .lit (.int .i64 1), .lit (.int .i64 1), .lit (.int .i64 2), .lit (.int .i64 0)], .agg [.lit (.int .i64 1), .lit (.int .i64 1), .lit (.int .i64 0), .lit (.int .i64 0), .lit (.int .i64 4)], .agg [.lit (.int .i64 1), .lit (.int .i64 0), .lit (.int .i64 0), .lit (.int .i64 0), .lit (.int .i64 6)], .agg [.lit (.int .i64 1), .lit (.int .i64 1), .lit (.int .i64 0), .lit (.int .i64 0), .lit (.int .i64 4)], .agg [.lit (.int .i64 0), .lit (.int .i64 1), .lit (.int .i64 1), .lit (.int .i64 0), .lit (.int .i64 4)], .agg [.lit (.int .i64 0), .lit (.int .i64 1), .lit (.int .i64 1), .lit (.int .i64 0), .lit (.int .i64 4)], .agg [.lit (.int .i64 0), .lit (.int .i64 1), .lit (.int .i64 1), .lit (.int .i64 0), .lit (.int .i64 4)], .agg [.lit (.int .i64 1), .lit (.int .i64 0), .lit (.int .i64 0), .lit (.int .i64 0), .lit (.int .i64 5)], .agg [.lit (.int .i64 1), .lit (.int .i64 1), .lit (.int .i64 0), .lit (.int .i64 0), .lit (.int .i64 4)], .agg [.lit (.int .i64 1), .lit (.int .i64 1), .lit (.int .i64 1), .lit (.int .i64 0), .lit (.int .i64 0)], .agg [.lit (.int .i64 1), .lit (.int .i64 1), .lit (.int .i64 1), .lit (.int .i64 0), .lit (.int .i64 0)], .agg [.lit (.int .i64 0), .lit (.int .i64 0), .lit (.int .i64 0), .lit (.int .i64 0), .lit (.int .i64 0)], .agg [.lit (.int .i64 0), .lit (.int .i64 0), .lit (.int .i64 0), .lit (.int .i64 0), .lit (.int .i64 6)], .agg [.lit (.int .i64 0), .lit (.int .i64 0), .lit (.int .i64 0), .lit (.int .i64 0), .lit (.int .i64 0)], .agg [.lit (.int .i64 1), .lit (.int .i64 0), .lit (.int .i64 0), .lit (.int .i64 3), .lit (.int .i64 0)], .agg [.lit (.int .i64 0), .lit (.int .i64 1), .lit (.int .i64 0), .lit (.int .i64 3), .lit (.int .i64 0)]]

/-- 'laws.FnCodOk': WHATEVER THE INPUT: true; the input reads as it did. -/
def fnCodOkSpec : ChangeSpec := { name := "fnCodOk", vars := ["loop.example/harbinger/impl.layouts", "loop.example/harbinger/impl.encodings"], fn := fun _ => fun
  | [d, g1, g2] => { results := [.lit (.bool true)], args := [d], vars := [g1, g2] }
  | _ => none }
def fnCodOkRow : OpenClaim := { program := "ytlnpileicdggiaadoor", sum := "f1bb818b2b23be57dac49f8d2143e8d04dd55b7628a3c252a5753958f6311899", func := "loop.example/harbinger/laws.FnCodOk", spec := "fnCodOk", named := ["loop.example/harbinger/impl.layouts", "loop.example/harbinger/impl.encodings"], apart := false, laid := [("loop.example/harbinger/impl.encodings", laid_loop_example_harbinger_impl_encodings), ("loop.example/harbinger/impl.layouts", laid_loop_example_harbinger_impl_layouts)] }
def FnCodOkSaid : Prop := fnCodOkRow.holds Tryd.pinned (OpenSpec.ofChange fnCodOkSpec)

/-- ITS FALSE NEIGHBOUR: 'it returns false'. Refute it at one input. -/
def fnCodOkWrong : ChangeSpec := { name := "fnCodOk", vars := ["loop.example/harbinger/impl.layouts", "loop.example/harbinger/impl.encodings"], fn := fun _ => fun
  | [d, g1, g2] => { results := [.lit (.bool false)], args := [d], vars := [g1, g2] }
  | _ => none }
def FnCodOkWrongFalsely : Prop := fnCodOkRow.holds Tryd.pinned (OpenSpec.ofChange fnCodOkWrong)

/-- 'laws.FnCodWord': WHATEVER THE INPUT: true; the input reads as it did. -/
def fnCodWordSpec : ChangeSpec := { name := "fnCodWord", vars := ["loop.example/harbinger/impl.layouts", "loop.example/harbinger/impl.encodings"], fn := fun _ => fun
  | [d1, d2, g1, g2] => { results := [.lit (.bool true)], args := [d1, d2], vars := [g1, g2] }
  | _ => none }
def fnCodWordRow : OpenClaim := { program := "ytlnpileicdggiaadoor", sum := "f1bb818b2b23be57dac49f8d2143e8d04dd55b7628a3c252a5753958f6311899", func := "loop.example/harbinger/laws.FnCodWord", spec := "fnCodWord", named := ["loop.example/harbinger/impl.layouts", "loop.example/harbinger/impl.encodings"], apart := false, laid := [("loop.example/harbinger/impl.encodings", laid_loop_example_harbinger_impl_encodings), ("loop.example/harbinger/impl.layouts", laid_loop_example_harbinger_impl_layouts)] }
def FnCodWordSaid : Prop := fnCodWordRow.holds Tryd.pinned (OpenSpec.ofChange fnCodWordSpec)

/-- ITS FALSE NEIGHBOUR: 'it returns false'. Refute it at one input. -/
def fnCodWordWrong : ChangeSpec := { name := "fnCodWord", vars := ["loop.example/harbinger/impl.layouts", "loop.example/harbinger/impl.encodings"], fn := fun _ => fun
  | [d1, d2, g1, g2] => { results := [.lit (.bool false)], args := [d1, d2], vars := [g1, g2] }
  | _ => none }
def FnCodWordWrongFalsely : Prop := fnCodWordRow.holds Tryd.pinned (OpenSpec.ofChange fnCodWordWrong)

/-- 'laws.FnCodUses': WHATEVER THE INPUT: true; the input reads as it did. -/
def fnCodUsesSpec : ChangeSpec := { name := "fnCodUses", vars := ["loop.example/harbinger/impl.layouts", "loop.example/harbinger/impl.encodings"], fn := fun _ => fun
  | [d1, d2, g1, g2] => { results := [.lit (.bool true)], args := [d1, d2], vars := [g1, g2] }
  | _ => none }
def fnCodUsesRow : OpenClaim := { program := "ytlnpileicdggiaadoor", sum := "f1bb818b2b23be57dac49f8d2143e8d04dd55b7628a3c252a5753958f6311899", func := "loop.example/harbinger/laws.FnCodUses", spec := "fnCodUses", named := ["loop.example/harbinger/impl.layouts", "loop.example/harbinger/impl.encodings"], apart := false, laid := [("loop.example/harbinger/impl.encodings", laid_loop_example_harbinger_impl_encodings), ("loop.example/harbinger/impl.layouts", laid_loop_example_harbinger_impl_layouts)] }
def FnCodUsesSaid : Prop := fnCodUsesRow.holds Tryd.pinned (OpenSpec.ofChange fnCodUsesSpec)

/-- ITS FALSE NEIGHBOUR: 'it returns false'. Refute it at one input. -/
def fnCodUsesWrong : ChangeSpec := { name := "fnCodUses", vars := ["loop.example/harbinger/impl.layouts", "loop.example/harbinger/impl.encodings"], fn := fun _ => fun
  | [d1, d2, g1, g2] => { results := [.lit (.bool false)], args := [d1, d2], vars := [g1, g2] }
  | _ => none }
def FnCodUsesWrongFalsely : Prop := fnCodUsesRow.holds Tryd.pinned (OpenSpec.ofChange fnCodUsesWrong)

/-- 'laws.FnExactCodOk': WHATEVER THE INPUT: true; the input reads as it did. -/
def fnExactCodOkSpec : ChangeSpec := { name := "fnExactCodOk", vars := ["loop.example/harbinger/impl.layouts", "loop.example/harbinger/impl.encodings"], fn := fun _ => fun
  | [d, g1, g2] => { results := [.lit (.bool true)], args := [d], vars := [g1, g2] }
  | _ => none }
def fnExactCodOkRow : OpenClaim := { program := "ytlnpileicdggiaadoor", sum := "f1bb818b2b23be57dac49f8d2143e8d04dd55b7628a3c252a5753958f6311899", func := "loop.example/harbinger/laws.FnExactCodOk", spec := "fnExactCodOk", named := ["loop.example/harbinger/impl.layouts", "loop.example/harbinger/impl.encodings"], apart := false, laid := [("loop.example/harbinger/impl.encodings", laid_loop_example_harbinger_impl_encodings), ("loop.example/harbinger/impl.layouts", laid_loop_example_harbinger_impl_layouts)] }
def FnExactCodOkSaid : Prop := fnExactCodOkRow.holds Tryd.pinned (OpenSpec.ofChange fnExactCodOkSpec)

/-- ITS FALSE NEIGHBOUR: 'it returns false'. Refute it at one input. -/
def fnExactCodOkWrong : ChangeSpec := { name := "fnExactCodOk", vars := ["loop.example/harbinger/impl.layouts", "loop.example/harbinger/impl.encodings"], fn := fun _ => fun
  | [d, g1, g2] => { results := [.lit (.bool false)], args := [d], vars := [g1, g2] }
  | _ => none }
def FnExactCodOkWrongFalsely : Prop := fnExactCodOkRow.holds Tryd.pinned (OpenSpec.ofChange fnExactCodOkWrong)

/-- 'laws.FnExactCodWord': WHATEVER THE INPUT: true; the input reads as it did. -/
def fnExactCodWordSpec : ChangeSpec := { name := "fnExactCodWord", vars := ["loop.example/harbinger/impl.layouts", "loop.example/harbinger/impl.encodings"], fn := fun _ => fun
  | [d, g1, g2] => { results := [.lit (.bool true)], args := [d], vars := [g1, g2] }
  | _ => none }
def fnExactCodWordRow : OpenClaim := { program := "ytlnpileicdggiaadoor", sum := "f1bb818b2b23be57dac49f8d2143e8d04dd55b7628a3c252a5753958f6311899", func := "loop.example/harbinger/laws.FnExactCodWord", spec := "fnExactCodWord", named := ["loop.example/harbinger/impl.layouts", "loop.example/harbinger/impl.encodings"], apart := false, laid := [("loop.example/harbinger/impl.encodings", laid_loop_example_harbinger_impl_encodings), ("loop.example/harbinger/impl.layouts", laid_loop_example_harbinger_impl_layouts)] }
def FnExactCodWordSaid : Prop := fnExactCodWordRow.holds Tryd.pinned (OpenSpec.ofChange fnExactCodWordSpec)

/-- ITS FALSE NEIGHBOUR: 'it returns false'. Refute it at one input. -/
def fnExactCodWordWrong : ChangeSpec := { name := "fnExactCodWord", vars := ["loop.example/harbinger/impl.layouts", "loop.example/harbinger/impl.encodings"], fn := fun _ => fun
  | [d, g1, g2] => { results := [.lit (.bool false)], args := [d], vars := [g1, g2] }
  | _ => none }
def FnExactCodWordWrongFalsely : Prop := fnExactCodWordRow.holds Tryd.pinned (OpenSpec.ofChange fnExactCodWordWrong)

/-- 'laws.FnExactCodRead': WHATEVER THE INPUT: true; the input reads as it did. -/
def fnExactCodReadSpec : ChangeSpec := { name := "fnExactCodRead", vars := ["loop.example/harbinger/impl.layouts", "loop.example/harbinger/impl.encodings"], fn := fun _ => fun
  | [d, g1, g2] => { results := [.lit (.bool true)], args := [d], vars := [g1, g2] }
  | _ => none }
def fnExactCodReadRow : OpenClaim := { program := "ytlnpileicdggiaadoor", sum := "f1bb818b2b23be57dac49f8d2143e8d04dd55b7628a3c252a5753958f6311899", func := "loop.example/harbinger/laws.FnExactCodRead", spec := "fnExactCodRead", named := ["loop.example/harbinger/impl.layouts", "loop.example/harbinger/impl.encodings"], apart := false, laid := [("loop.example/harbinger/impl.encodings", laid_loop_example_harbinger_impl_encodings), ("loop.example/harbinger/impl.layouts", laid_loop_example_harbinger_impl_layouts)] }
def FnExactCodReadSaid : Prop := fnExactCodReadRow.holds Tryd.pinned (OpenSpec.ofChange fnExactCodReadSpec)

/-- ITS FALSE NEIGHBOUR: 'it returns false'. Refute it at one input. -/
def fnExactCodReadWrong : ChangeSpec := { name := "fnExactCodRead", vars := ["loop.example/harbinger/impl.layouts", "loop.example/harbinger/impl.encodings"], fn := fun _ => fun
  | [d, g1, g2] => { results := [.lit (.bool false)], args := [d], vars := [g1, g2] }
  | _ => none }
def FnExactCodReadWrongFalsely : Prop := fnExactCodReadRow.holds Tryd.pinned (OpenSpec.ofChange fnExactCodReadWrong)

/-- 'laws.FnExactCodUses': WHATEVER THE INPUT: true; the input reads as it did. -/
def fnExactCodUsesSpec : ChangeSpec := { name := "fnExactCodUses", vars := ["loop.example/harbinger/impl.layouts", "loop.example/harbinger/impl.encodings"], fn := fun _ => fun
  | [d, g1, g2] => { results := [.lit (.bool true)], args := [d], vars := [g1, g2] }
  | _ => none }
def fnExactCodUsesRow : OpenClaim := { program := "ytlnpileicdggiaadoor", sum := "f1bb818b2b23be57dac49f8d2143e8d04dd55b7628a3c252a5753958f6311899", func := "loop.example/harbinger/laws.FnExactCodUses", spec := "fnExactCodUses", named := ["loop.example/harbinger/impl.layouts", "loop.example/harbinger/impl.encodings"], apart := false, laid := [("loop.example/harbinger/impl.encodings", laid_loop_example_harbinger_impl_encodings), ("loop.example/harbinger/impl.layouts", laid_loop_example_harbinger_impl_layouts)] }
def FnExactCodUsesSaid : Prop := fnExactCodUsesRow.holds Tryd.pinned (OpenSpec.ofChange fnExactCodUsesSpec)

/-- ITS FALSE NEIGHBOUR: 'it returns false'. Refute it at one input. -/
def fnExactCodUsesWrong : ChangeSpec := { name := "fnExactCodUses", vars := ["loop.example/harbinger/impl.layouts", "loop.example/harbinger/impl.encodings"], fn := fun _ => fun
  | [d, g1, g2] => { results := [.lit (.bool false)], args := [d], vars := [g1, g2] }
  | _ => none }
def FnExactCodUsesWrongFalsely : Prop := fnExactCodUsesRow.holds Tryd.pinned (OpenSpec.ofChange fnExactCodUsesWrong)

/-- 'laws.FnExactCodGives': WHATEVER THE INPUT: true; the input reads as it did. -/
def fnExactCodGivesSpec : ChangeSpec := { name := "fnExactCodGives", vars := ["loop.example/harbinger/impl.layouts", "loop.example/harbinger/impl.encodings"], fn := fun _ => fun
  | [d, g1, g2] => { results := [.lit (.bool true)], args := [d], vars := [g1, g2] }
  | _ => none }
def fnExactCodGivesRow : OpenClaim := { program := "ytlnpileicdggiaadoor", sum := "f1bb818b2b23be57dac49f8d2143e8d04dd55b7628a3c252a5753958f6311899", func := "loop.example/harbinger/laws.FnExactCodGives", spec := "fnExactCodGives", named := ["loop.example/harbinger/impl.layouts", "loop.example/harbinger/impl.encodings"], apart := false, laid := [("loop.example/harbinger/impl.encodings", laid_loop_example_harbinger_impl_encodings), ("loop.example/harbinger/impl.layouts", laid_loop_example_harbinger_impl_layouts)] }
def FnExactCodGivesSaid : Prop := fnExactCodGivesRow.holds Tryd.pinned (OpenSpec.ofChange fnExactCodGivesSpec)

/-- ITS FALSE NEIGHBOUR: 'it returns false'. Refute it at one input. -/
def fnExactCodGivesWrong : ChangeSpec := { name := "fnExactCodGives", vars := ["loop.example/harbinger/impl.layouts", "loop.example/harbinger/impl.encodings"], fn := fun _ => fun
  | [d, g1, g2] => { results := [.lit (.bool false)], args := [d], vars := [g1, g2] }
  | _ => none }
def FnExactCodGivesWrongFalsely : Prop := fnExactCodGivesRow.holds Tryd.pinned (OpenSpec.ofChange fnExactCodGivesWrong)

/- THE SECOND FORM. 'bulk': how many values and letters a reading holds, each counted each time it is reached (what is shared counts as often as it is met; a slice's spare places count too). A statement '..UptoSaid' is the law's where the arguments, and the package variables that the reading takes, are together of bulk at most 1048576: NARROWER than '..Said'. Prove '..Said' where nothing that the law and all that it calls make is longer than what came in: it says more and counts as full. Else prove '..UptoSaid'. A law counts once. -/
mutual
def uptoBulk {H : Type} : DataW H → Nat
  | .lit (.string bytes) => bytes.length + 1
  | .lit _ => 1
  | .nil => 1
  | .ptr d => uptoBulk d + 1
  | .slice elems spare => uptoBulkAll elems + uptoBulkAll spare + 1
  | .agg parts => uptoBulkAll parts + 1
  | .iface _ d => uptoBulk d + 1
  | .map entries => uptoBulkEntries entries + 1
  | .held _ => 1
def uptoBulkAll {H : Type} : List (DataW H) → Nat
  | [] => 0
  | d :: r => uptoBulk d + uptoBulkAll r
def uptoBulkEntries {H : Type} : List (Lit × DataW H) → Nat
  | [] => 0
  | x :: r => uptoBulkEntry x + uptoBulkEntries r
def uptoBulkEntry {H : Type} : Lit × DataW H → Nat
  | (.string bytes, d) => bytes.length + uptoBulk d + 1
  | (_, d) => uptoBulk d + 1
 end
def uptoSmall : (H : Type) → List (DataW H) → Bool := fun _ ds => decide (uptoBulkAll ds ≤ 1048576)
def OpenSpec.upto (s : _root_.Go.ChangeSpec) : _root_.Go.OpenSpec := { _root_.Go.OpenSpec.ofChange s with cond := some uptoSmall }

/-- 'laws.FnCodOk', WHERE WHAT IT READS IS OF BULK AT MOST 1048576: true; the input reads as it did. -/
def fnCodOkUptoRow : OpenClaim := { program := "ytlnpileicdggiaadoor", sum := "f1bb818b2b23be57dac49f8d2143e8d04dd55b7628a3c252a5753958f6311899", func := "loop.example/harbinger/laws.FnCodOk", spec := "fnCodOk", named := ["loop.example/harbinger/impl.layouts", "loop.example/harbinger/impl.encodings"], apart := false, laid := [("loop.example/harbinger/impl.encodings", laid_loop_example_harbinger_impl_encodings), ("loop.example/harbinger/impl.layouts", laid_loop_example_harbinger_impl_layouts)], narrowed := true }
def FnCodOkUptoSaid : Prop := fnCodOkUptoRow.holds Tryd.pinned (OpenSpec.upto fnCodOkSpec)

/-- 'laws.FnCodWord', WHERE WHAT IT READS IS OF BULK AT MOST 1048576: true; the input reads as it did. -/
def fnCodWordUptoRow : OpenClaim := { program := "ytlnpileicdggiaadoor", sum := "f1bb818b2b23be57dac49f8d2143e8d04dd55b7628a3c252a5753958f6311899", func := "loop.example/harbinger/laws.FnCodWord", spec := "fnCodWord", named := ["loop.example/harbinger/impl.layouts", "loop.example/harbinger/impl.encodings"], apart := false, laid := [("loop.example/harbinger/impl.encodings", laid_loop_example_harbinger_impl_encodings), ("loop.example/harbinger/impl.layouts", laid_loop_example_harbinger_impl_layouts)], narrowed := true }
def FnCodWordUptoSaid : Prop := fnCodWordUptoRow.holds Tryd.pinned (OpenSpec.upto fnCodWordSpec)

/-- 'laws.FnCodUses', WHERE WHAT IT READS IS OF BULK AT MOST 1048576: true; the input reads as it did. -/
def fnCodUsesUptoRow : OpenClaim := { program := "ytlnpileicdggiaadoor", sum := "f1bb818b2b23be57dac49f8d2143e8d04dd55b7628a3c252a5753958f6311899", func := "loop.example/harbinger/laws.FnCodUses", spec := "fnCodUses", named := ["loop.example/harbinger/impl.layouts", "loop.example/harbinger/impl.encodings"], apart := false, laid := [("loop.example/harbinger/impl.encodings", laid_loop_example_harbinger_impl_encodings), ("loop.example/harbinger/impl.layouts", laid_loop_example_harbinger_impl_layouts)], narrowed := true }
def FnCodUsesUptoSaid : Prop := fnCodUsesUptoRow.holds Tryd.pinned (OpenSpec.upto fnCodUsesSpec)

/-- 'laws.FnExactCodOk', WHERE WHAT IT READS IS OF BULK AT MOST 1048576: true; the input reads as it did. -/
def fnExactCodOkUptoRow : OpenClaim := { program := "ytlnpileicdggiaadoor", sum := "f1bb818b2b23be57dac49f8d2143e8d04dd55b7628a3c252a5753958f6311899", func := "loop.example/harbinger/laws.FnExactCodOk", spec := "fnExactCodOk", named := ["loop.example/harbinger/impl.layouts", "loop.example/harbinger/impl.encodings"], apart := false, laid := [("loop.example/harbinger/impl.encodings", laid_loop_example_harbinger_impl_encodings), ("loop.example/harbinger/impl.layouts", laid_loop_example_harbinger_impl_layouts)], narrowed := true }
def FnExactCodOkUptoSaid : Prop := fnExactCodOkUptoRow.holds Tryd.pinned (OpenSpec.upto fnExactCodOkSpec)

/-- 'laws.FnExactCodWord', WHERE WHAT IT READS IS OF BULK AT MOST 1048576: true; the input reads as it did. -/
def fnExactCodWordUptoRow : OpenClaim := { program := "ytlnpileicdggiaadoor", sum := "f1bb818b2b23be57dac49f8d2143e8d04dd55b7628a3c252a5753958f6311899", func := "loop.example/harbinger/laws.FnExactCodWord", spec := "fnExactCodWord", named := ["loop.example/harbinger/impl.layouts", "loop.example/harbinger/impl.encodings"], apart := false, laid := [("loop.example/harbinger/impl.encodings", laid_loop_example_harbinger_impl_encodings), ("loop.example/harbinger/impl.layouts", laid_loop_example_harbinger_impl_layouts)], narrowed := true }
def FnExactCodWordUptoSaid : Prop := fnExactCodWordUptoRow.holds Tryd.pinned (OpenSpec.upto fnExactCodWordSpec)

/-- 'laws.FnExactCodRead', WHERE WHAT IT READS IS OF BULK AT MOST 1048576: true; the input reads as it did. -/
def fnExactCodReadUptoRow : OpenClaim := { program := "ytlnpileicdggiaadoor", sum := "f1bb818b2b23be57dac49f8d2143e8d04dd55b7628a3c252a5753958f6311899", func := "loop.example/harbinger/laws.FnExactCodRead", spec := "fnExactCodRead", named := ["loop.example/harbinger/impl.layouts", "loop.example/harbinger/impl.encodings"], apart := false, laid := [("loop.example/harbinger/impl.encodings", laid_loop_example_harbinger_impl_encodings), ("loop.example/harbinger/impl.layouts", laid_loop_example_harbinger_impl_layouts)], narrowed := true }
def FnExactCodReadUptoSaid : Prop := fnExactCodReadUptoRow.holds Tryd.pinned (OpenSpec.upto fnExactCodReadSpec)

/-- 'laws.FnExactCodUses', WHERE WHAT IT READS IS OF BULK AT MOST 1048576: true; the input reads as it did. -/
def fnExactCodUsesUptoRow : OpenClaim := { program := "ytlnpileicdggiaadoor", sum := "f1bb818b2b23be57dac49f8d2143e8d04dd55b7628a3c252a5753958f6311899", func := "loop.example/harbinger/laws.FnExactCodUses", spec := "fnExactCodUses", named := ["loop.example/harbinger/impl.layouts", "loop.example/harbinger/impl.encodings"], apart := false, laid := [("loop.example/harbinger/impl.encodings", laid_loop_example_harbinger_impl_encodings), ("loop.example/harbinger/impl.layouts", laid_loop_example_harbinger_impl_layouts)], narrowed := true }
def FnExactCodUsesUptoSaid : Prop := fnExactCodUsesUptoRow.holds Tryd.pinned (OpenSpec.upto fnExactCodUsesSpec)

/-- 'laws.FnExactCodGives', WHERE WHAT IT READS IS OF BULK AT MOST 1048576: true; the input reads as it did. -/
def fnExactCodGivesUptoRow : OpenClaim := { program := "ytlnpileicdggiaadoor", sum := "f1bb818b2b23be57dac49f8d2143e8d04dd55b7628a3c252a5753958f6311899", func := "loop.example/harbinger/laws.FnExactCodGives", spec := "fnExactCodGives", named := ["loop.example/harbinger/impl.layouts", "loop.example/harbinger/impl.encodings"], apart := false, laid := [("loop.example/harbinger/impl.encodings", laid_loop_example_harbinger_impl_encodings), ("loop.example/harbinger/impl.layouts", laid_loop_example_harbinger_impl_layouts)], narrowed := true }
def FnExactCodGivesUptoSaid : Prop := fnExactCodGivesUptoRow.holds Tryd.pinned (OpenSpec.upto fnExactCodGivesSpec)

end Rows
end Go.Proofs.YtlnpileicdggiaaDoor
