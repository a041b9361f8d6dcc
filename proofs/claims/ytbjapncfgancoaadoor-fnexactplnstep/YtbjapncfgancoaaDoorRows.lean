/-
  NARROWER THAN 'FOR EVERY INPUT', by the rows' own cells (each row's printed sentence says how): FnExactPlnStep: laid · FnExactPlnRun: laid · FnDoAlu: laid · FnDoImm: laid · FnDoMul: laid · FnDoEq: laid · FnDoLt: laid · FnDoJump: laid · FnDoMem: laid · FnDoSwap: laid · FnDoSys: laid · FnDoOwn: laid · FnDoWait: laid · FnDoZero: laid · FnDoFar: laid · FnDoPage: laid.
  DERIVED. THE GIVEN ROWS OF THIS SEAT. 16 by the template 'for every input the law returns true; each argument reads behind the call as it read before'; 0 by the template 'total and deterministic' (their statements: YtbjapncfgancoaaDoorTotals.lean).
  GIVEN WITH THE SEED: the statements are not yours to turn. If you find one false, say at which input.
  Laid BY PROGRAM, IN A SANDBOX (cutbox-rows.mjs): the forced cells as the released guide's own fill.sh prints them over the translation 707b68befd3d616c… (all of the seat's roots in one cut). By AI agents, Wed Nov 11 2026. No macro, syntax, notation, axiom, sorry.
-/
import Derived.Test.YtbjapncfgancoaaDoorChecked
import GoSem.Claim
import GoSem.ClaimJoined
import GoSem.ClaimMapViews
import Derived.JoinedTies
import Derived.KernelRfl
namespace Go.Proofs.YtbjapncfgancoaaDoor
/- THE CELL 'sum', in the pinned program and in every row, IS THE sha256 OF THE DUMP (.gsa) THAT YtbjapncfgancoaaDoorProg.lean LOADS. Nothing in Lean hashes anything: it is a label: what it is worth is what the hold of that sum in a sandbox is worth. -/
noncomputable def Tryd.pinned : Pinned := { name := "ytbjapncfgancoaadoor", sum := "707b68befd3d616c76bdf71240e56f06d999b2d477f74c6fc2d1f2560c54890b", checked := Tryd.checked }
namespace Rows
def none {H : Type} : Left H := { results := [], args := [] }

/- WHAT THE LISTED PACKAGE-LEVEL VARIABLES READ AS WHEN THE CALL BEGINS. Each datum BY PROGRAM (the guide's laid-datum.mjs) off the statement by which the dump's own 'gosem.cut.vars' lays the variable. In a bare row this is a premise. The card (YtbjapncfgancoaaDoorCards.lean) ties it to the program's text. -/
def laid_loop_example_harbinger_impl_encodings {H : Type} : DataW H := .agg [.agg [.lit (.int .i64 0), .lit (.int .i64 0), .lit (.int .i64 0)], .agg [.lit (.int .i64 3), .lit (.int .i64 0), .lit (.int .i64 7)], .agg [.lit (.int .i64 3), .lit (.int .i64 0), .lit (.int .i64 7)], .agg [.lit (.int .i64 3), .lit (.int .i64 0), .lit (.int .i64 4)], .agg [.lit (.int .i64 6), .lit (.int .i64 (-32)), .lit (.int .i64 31)], .agg [.lit (.int .i64 9), .lit (.int .i64 (-256)), .lit (.int .i64 255)], .agg [.lit (.int .i64 9), .lit (.int .i64 0), .lit (.int .i64 511)]]
def laid_loop_example_harbinger_impl_layouts {H : Type} : DataW H := .agg [.agg [.lit (.int .i64 1), .lit (.int .i64 1), .lit (.int .i64 1), .lit (.int .i64 2), .lit (.int .i64 0)], .agg [.lit (.int .i64 1), .lit (.int .i64 1), .lit (.int .i64 0), .lit (.int .i64 0), .lit (.int .i64 4)], .agg [.lit (.int .i64 1), .lit (.int .i64 0), .lit (.int .i64 0), .lit (.int .i64 0), .lit (.int .i64 6)], .agg [.lit (.int .i64 1), .lit (.int .i64 1), .lit (.int .i64 0), .lit (.int .i64 0), .lit (.int .i64 4)], .agg [.lit (.int .i64 0), .lit (.int .i64 1), .lit (.int .i64 1), .lit (.int .i64 0), .lit (.int .i64 4)], .agg [.lit (.int .i64 0), .lit (.int .i64 1), .lit (.int .i64 1), .lit (.int .i64 0), .lit (.int .i64 4)], .agg [.lit (.int .i64 0), .lit (.int .i64 1), .lit (.int .i64 1), .lit (.int .i64 0), .lit (.int .i64 4)], .agg [.lit (.int .i64 1), .lit (.int .i64 0), .lit (.int .i64 0), .lit (.int .i64 0), .lit (.int .i64 5)], .agg [.lit (.int .i64 1), .lit (.int .i64 1), .lit (.int .i64 0), .lit (.int .i64 0), .lit (.int .i64 4)], .agg [.lit (.int .i64 1), .lit (.int .i64 1), .lit (.int .i64 1), .lit (.int .i64 0), .lit (.int .i64 0)], .agg [.lit (.int .i64 1), .lit (.int .i64 1), .lit (.int .i64 1), .lit (.int .i64 0), .lit (.int .i64 0)], .agg [.lit (.int .i64 0), .lit (.int .i64 0), .lit (.int .i64 0), .lit (.int .i64 0), .lit (.int .i64 0)], .agg [.lit (.int .i64 0), .lit (.int .i64 0), .lit (.int .i64 0), .lit (.int .i64 0), .lit (.int .i64 6)], .agg [.lit (.int .i64 0), .lit (.int .i64 0), .lit (.int .i64 0), .lit (.int .i64 0), .lit (.int .i64 0)], .agg [.lit (.int .i64 1), .lit (.int .i64 0), .lit (.int .i64 0), .lit (.int .i64 3), .lit (.int .i64 0)], .agg [.lit (.int .i64 0), .lit (.int .i64 1), .lit (.int .i64 0), .lit (.int .i64 3), .lit (.int .i64 0)]]

/-- 'laws.FnExactPlnStep': WHATEVER THE INPUT: true; the input reads as it did. -/
def fnExactPlnStepSpec : ChangeSpec := { name := "fnExactPlnStep", vars := ["loop.example/harbinger/impl.layouts", "loop.example/harbinger/impl.encodings"], fn := fun _ => fun
  | [d1, d2, g1, g2] => { results := [.lit (.bool true)], args := [d1, d2], vars := [g1, g2] }
  | _ => none }
def fnExactPlnStepRow : OpenClaim := { program := "ytbjapncfgancoaadoor", sum := "707b68befd3d616c76bdf71240e56f06d999b2d477f74c6fc2d1f2560c54890b", func := "loop.example/harbinger/laws.FnExactPlnStep", spec := "fnExactPlnStep", unfollowed := true, recurses := true, named := ["loop.example/harbinger/impl.layouts", "loop.example/harbinger/impl.encodings"], apart := false, laid := [("loop.example/harbinger/impl.encodings", laid_loop_example_harbinger_impl_encodings), ("loop.example/harbinger/impl.layouts", laid_loop_example_harbinger_impl_layouts)] }
def FnExactPlnStepSaid : Prop := fnExactPlnStepRow.holds Tryd.pinned (OpenSpec.ofChange fnExactPlnStepSpec)

/-- ITS FALSE NEIGHBOUR: 'it returns false'. Refute it at one input. -/
def fnExactPlnStepWrong : ChangeSpec := { name := "fnExactPlnStep", vars := ["loop.example/harbinger/impl.layouts", "loop.example/harbinger/impl.encodings"], fn := fun _ => fun
  | [d1, d2, g1, g2] => { results := [.lit (.bool false)], args := [d1, d2], vars := [g1, g2] }
  | _ => none }
def FnExactPlnStepWrongFalsely : Prop := fnExactPlnStepRow.holds Tryd.pinned (OpenSpec.ofChange fnExactPlnStepWrong)

/-- 'laws.FnExactPlnRun': WHATEVER THE INPUT: true; the input reads as it did. -/
def fnExactPlnRunSpec : ChangeSpec := { name := "fnExactPlnRun", vars := ["loop.example/harbinger/impl.layouts", "loop.example/harbinger/impl.encodings"], fn := fun _ => fun
  | [d1, d2, g1, g2] => { results := [.lit (.bool true)], args := [d1, d2], vars := [g1, g2] }
  | _ => none }
def fnExactPlnRunRow : OpenClaim := { program := "ytbjapncfgancoaadoor", sum := "707b68befd3d616c76bdf71240e56f06d999b2d477f74c6fc2d1f2560c54890b", func := "loop.example/harbinger/laws.FnExactPlnRun", spec := "fnExactPlnRun", unfollowed := true, recurses := true, named := ["loop.example/harbinger/impl.layouts", "loop.example/harbinger/impl.encodings"], apart := false, laid := [("loop.example/harbinger/impl.encodings", laid_loop_example_harbinger_impl_encodings), ("loop.example/harbinger/impl.layouts", laid_loop_example_harbinger_impl_layouts)] }
def FnExactPlnRunSaid : Prop := fnExactPlnRunRow.holds Tryd.pinned (OpenSpec.ofChange fnExactPlnRunSpec)

/-- ITS FALSE NEIGHBOUR: 'it returns false'. Refute it at one input. -/
def fnExactPlnRunWrong : ChangeSpec := { name := "fnExactPlnRun", vars := ["loop.example/harbinger/impl.layouts", "loop.example/harbinger/impl.encodings"], fn := fun _ => fun
  | [d1, d2, g1, g2] => { results := [.lit (.bool false)], args := [d1, d2], vars := [g1, g2] }
  | _ => none }
def FnExactPlnRunWrongFalsely : Prop := fnExactPlnRunRow.holds Tryd.pinned (OpenSpec.ofChange fnExactPlnRunWrong)

/-- 'laws.FnDoAlu': WHATEVER THE INPUT: true; the input reads as it did. -/
def fnDoAluSpec : ChangeSpec := { name := "fnDoAlu", vars := ["loop.example/harbinger/impl.layouts", "loop.example/harbinger/impl.encodings"], fn := fun _ => fun
  | [d, g1, g2] => { results := [.lit (.bool true)], args := [d], vars := [g1, g2] }
  | _ => none }
def fnDoAluRow : OpenClaim := { program := "ytbjapncfgancoaadoor", sum := "707b68befd3d616c76bdf71240e56f06d999b2d477f74c6fc2d1f2560c54890b", func := "loop.example/harbinger/laws.FnDoAlu", spec := "fnDoAlu", unfollowed := true, recurses := true, named := ["loop.example/harbinger/impl.layouts", "loop.example/harbinger/impl.encodings"], apart := false, laid := [("loop.example/harbinger/impl.encodings", laid_loop_example_harbinger_impl_encodings), ("loop.example/harbinger/impl.layouts", laid_loop_example_harbinger_impl_layouts)] }
def FnDoAluSaid : Prop := fnDoAluRow.holds Tryd.pinned (OpenSpec.ofChange fnDoAluSpec)

/-- ITS FALSE NEIGHBOUR: 'it returns false'. Refute it at one input. -/
def fnDoAluWrong : ChangeSpec := { name := "fnDoAlu", vars := ["loop.example/harbinger/impl.layouts", "loop.example/harbinger/impl.encodings"], fn := fun _ => fun
  | [d, g1, g2] => { results := [.lit (.bool false)], args := [d], vars := [g1, g2] }
  | _ => none }
def FnDoAluWrongFalsely : Prop := fnDoAluRow.holds Tryd.pinned (OpenSpec.ofChange fnDoAluWrong)

/-- 'laws.FnDoImm': WHATEVER THE INPUT: true; the input reads as it did. -/
def fnDoImmSpec : ChangeSpec := { name := "fnDoImm", vars := ["loop.example/harbinger/impl.layouts", "loop.example/harbinger/impl.encodings"], fn := fun _ => fun
  | [d, g1, g2] => { results := [.lit (.bool true)], args := [d], vars := [g1, g2] }
  | _ => none }
def fnDoImmRow : OpenClaim := { program := "ytbjapncfgancoaadoor", sum := "707b68befd3d616c76bdf71240e56f06d999b2d477f74c6fc2d1f2560c54890b", func := "loop.example/harbinger/laws.FnDoImm", spec := "fnDoImm", unfollowed := true, recurses := true, named := ["loop.example/harbinger/impl.layouts", "loop.example/harbinger/impl.encodings"], apart := false, laid := [("loop.example/harbinger/impl.encodings", laid_loop_example_harbinger_impl_encodings), ("loop.example/harbinger/impl.layouts", laid_loop_example_harbinger_impl_layouts)] }
def FnDoImmSaid : Prop := fnDoImmRow.holds Tryd.pinned (OpenSpec.ofChange fnDoImmSpec)

/-- ITS FALSE NEIGHBOUR: 'it returns false'. Refute it at one input. -/
def fnDoImmWrong : ChangeSpec := { name := "fnDoImm", vars := ["loop.example/harbinger/impl.layouts", "loop.example/harbinger/impl.encodings"], fn := fun _ => fun
  | [d, g1, g2] => { results := [.lit (.bool false)], args := [d], vars := [g1, g2] }
  | _ => none }
def FnDoImmWrongFalsely : Prop := fnDoImmRow.holds Tryd.pinned (OpenSpec.ofChange fnDoImmWrong)

/-- 'laws.FnDoMul': WHATEVER THE INPUT: true; the input reads as it did. -/
def fnDoMulSpec : ChangeSpec := { name := "fnDoMul", vars := ["loop.example/harbinger/impl.layouts", "loop.example/harbinger/impl.encodings"], fn := fun _ => fun
  | [d, g1, g2] => { results := [.lit (.bool true)], args := [d], vars := [g1, g2] }
  | _ => none }
def fnDoMulRow : OpenClaim := { program := "ytbjapncfgancoaadoor", sum := "707b68befd3d616c76bdf71240e56f06d999b2d477f74c6fc2d1f2560c54890b", func := "loop.example/harbinger/laws.FnDoMul", spec := "fnDoMul", unfollowed := true, recurses := true, named := ["loop.example/harbinger/impl.layouts", "loop.example/harbinger/impl.encodings"], apart := false, laid := [("loop.example/harbinger/impl.encodings", laid_loop_example_harbinger_impl_encodings), ("loop.example/harbinger/impl.layouts", laid_loop_example_harbinger_impl_layouts)] }
def FnDoMulSaid : Prop := fnDoMulRow.holds Tryd.pinned (OpenSpec.ofChange fnDoMulSpec)

/-- ITS FALSE NEIGHBOUR: 'it returns false'. Refute it at one input. -/
def fnDoMulWrong : ChangeSpec := { name := "fnDoMul", vars := ["loop.example/harbinger/impl.layouts", "loop.example/harbinger/impl.encodings"], fn := fun _ => fun
  | [d, g1, g2] => { results := [.lit (.bool false)], args := [d], vars := [g1, g2] }
  | _ => none }
def FnDoMulWrongFalsely : Prop := fnDoMulRow.holds Tryd.pinned (OpenSpec.ofChange fnDoMulWrong)

/-- 'laws.FnDoEq': WHATEVER THE INPUT: true; the input reads as it did. -/
def fnDoEqSpec : ChangeSpec := { name := "fnDoEq", vars := ["loop.example/harbinger/impl.layouts", "loop.example/harbinger/impl.encodings"], fn := fun _ => fun
  | [d, g1, g2] => { results := [.lit (.bool true)], args := [d], vars := [g1, g2] }
  | _ => none }
def fnDoEqRow : OpenClaim := { program := "ytbjapncfgancoaadoor", sum := "707b68befd3d616c76bdf71240e56f06d999b2d477f74c6fc2d1f2560c54890b", func := "loop.example/harbinger/laws.FnDoEq", spec := "fnDoEq", unfollowed := true, recurses := true, named := ["loop.example/harbinger/impl.layouts", "loop.example/harbinger/impl.encodings"], apart := false, laid := [("loop.example/harbinger/impl.encodings", laid_loop_example_harbinger_impl_encodings), ("loop.example/harbinger/impl.layouts", laid_loop_example_harbinger_impl_layouts)] }
def FnDoEqSaid : Prop := fnDoEqRow.holds Tryd.pinned (OpenSpec.ofChange fnDoEqSpec)

/-- ITS FALSE NEIGHBOUR: 'it returns false'. Refute it at one input. -/
def fnDoEqWrong : ChangeSpec := { name := "fnDoEq", vars := ["loop.example/harbinger/impl.layouts", "loop.example/harbinger/impl.encodings"], fn := fun _ => fun
  | [d, g1, g2] => { results := [.lit (.bool false)], args := [d], vars := [g1, g2] }
  | _ => none }
def FnDoEqWrongFalsely : Prop := fnDoEqRow.holds Tryd.pinned (OpenSpec.ofChange fnDoEqWrong)

/-- 'laws.FnDoLt': WHATEVER THE INPUT: true; the input reads as it did. -/
def fnDoLtSpec : ChangeSpec := { name := "fnDoLt", vars := ["loop.example/harbinger/impl.layouts", "loop.example/harbinger/impl.encodings"], fn := fun _ => fun
  | [d, g1, g2] => { results := [.lit (.bool true)], args := [d], vars := [g1, g2] }
  | _ => none }
def fnDoLtRow : OpenClaim := { program := "ytbjapncfgancoaadoor", sum := "707b68befd3d616c76bdf71240e56f06d999b2d477f74c6fc2d1f2560c54890b", func := "loop.example/harbinger/laws.FnDoLt", spec := "fnDoLt", unfollowed := true, recurses := true, named := ["loop.example/harbinger/impl.layouts", "loop.example/harbinger/impl.encodings"], apart := false, laid := [("loop.example/harbinger/impl.encodings", laid_loop_example_harbinger_impl_encodings), ("loop.example/harbinger/impl.layouts", laid_loop_example_harbinger_impl_layouts)] }
def FnDoLtSaid : Prop := fnDoLtRow.holds Tryd.pinned (OpenSpec.ofChange fnDoLtSpec)

/-- ITS FALSE NEIGHBOUR: 'it returns false'. Refute it at one input. -/
def fnDoLtWrong : ChangeSpec := { name := "fnDoLt", vars := ["loop.example/harbinger/impl.layouts", "loop.example/harbinger/impl.encodings"], fn := fun _ => fun
  | [d, g1, g2] => { results := [.lit (.bool false)], args := [d], vars := [g1, g2] }
  | _ => none }
def FnDoLtWrongFalsely : Prop := fnDoLtRow.holds Tryd.pinned (OpenSpec.ofChange fnDoLtWrong)

/-- 'laws.FnDoJump': WHATEVER THE INPUT: true; the input reads as it did. -/
def fnDoJumpSpec : ChangeSpec := { name := "fnDoJump", vars := ["loop.example/harbinger/impl.layouts", "loop.example/harbinger/impl.encodings"], fn := fun _ => fun
  | [d, g1, g2] => { results := [.lit (.bool true)], args := [d], vars := [g1, g2] }
  | _ => none }
def fnDoJumpRow : OpenClaim := { program := "ytbjapncfgancoaadoor", sum := "707b68befd3d616c76bdf71240e56f06d999b2d477f74c6fc2d1f2560c54890b", func := "loop.example/harbinger/laws.FnDoJump", spec := "fnDoJump", unfollowed := true, recurses := true, named := ["loop.example/harbinger/impl.layouts", "loop.example/harbinger/impl.encodings"], apart := false, laid := [("loop.example/harbinger/impl.encodings", laid_loop_example_harbinger_impl_encodings), ("loop.example/harbinger/impl.layouts", laid_loop_example_harbinger_impl_layouts)] }
def FnDoJumpSaid : Prop := fnDoJumpRow.holds Tryd.pinned (OpenSpec.ofChange fnDoJumpSpec)

/-- ITS FALSE NEIGHBOUR: 'it returns false'. Refute it at one input. -/
def fnDoJumpWrong : ChangeSpec := { name := "fnDoJump", vars := ["loop.example/harbinger/impl.layouts", "loop.example/harbinger/impl.encodings"], fn := fun _ => fun
  | [d, g1, g2] => { results := [.lit (.bool false)], args := [d], vars := [g1, g2] }
  | _ => none }
def FnDoJumpWrongFalsely : Prop := fnDoJumpRow.holds Tryd.pinned (OpenSpec.ofChange fnDoJumpWrong)

/-- 'laws.FnDoMem': WHATEVER THE INPUT: true; the input reads as it did. -/
def fnDoMemSpec : ChangeSpec := { name := "fnDoMem", vars := ["loop.example/harbinger/impl.layouts", "loop.example/harbinger/impl.encodings"], fn := fun _ => fun
  | [d, g1, g2] => { results := [.lit (.bool true)], args := [d], vars := [g1, g2] }
  | _ => none }
def fnDoMemRow : OpenClaim := { program := "ytbjapncfgancoaadoor", sum := "707b68befd3d616c76bdf71240e56f06d999b2d477f74c6fc2d1f2560c54890b", func := "loop.example/harbinger/laws.FnDoMem", spec := "fnDoMem", unfollowed := true, recurses := true, named := ["loop.example/harbinger/impl.layouts", "loop.example/harbinger/impl.encodings"], apart := false, laid := [("loop.example/harbinger/impl.encodings", laid_loop_example_harbinger_impl_encodings), ("loop.example/harbinger/impl.layouts", laid_loop_example_harbinger_impl_layouts)] }
def FnDoMemSaid : Prop := fnDoMemRow.holds Tryd.pinned (OpenSpec.ofChange fnDoMemSpec)

/-- ITS FALSE NEIGHBOUR: 'it returns false'. Refute it at one input. -/
def fnDoMemWrong : ChangeSpec := { name := "fnDoMem", vars := ["loop.example/harbinger/impl.layouts", "loop.example/harbinger/impl.encodings"], fn := fun _ => fun
  | [d, g1, g2] => { results := [.lit (.bool false)], args := [d], vars := [g1, g2] }
  | _ => none }
def FnDoMemWrongFalsely : Prop := fnDoMemRow.holds Tryd.pinned (OpenSpec.ofChange fnDoMemWrong)

/-- 'laws.FnDoSwap': WHATEVER THE INPUT: true; the input reads as it did. -/
def fnDoSwapSpec : ChangeSpec := { name := "fnDoSwap", vars := ["loop.example/harbinger/impl.layouts", "loop.example/harbinger/impl.encodings"], fn := fun _ => fun
  | [d, g1, g2] => { results := [.lit (.bool true)], args := [d], vars := [g1, g2] }
  | _ => none }
def fnDoSwapRow : OpenClaim := { program := "ytbjapncfgancoaadoor", sum := "707b68befd3d616c76bdf71240e56f06d999b2d477f74c6fc2d1f2560c54890b", func := "loop.example/harbinger/laws.FnDoSwap", spec := "fnDoSwap", unfollowed := true, recurses := true, named := ["loop.example/harbinger/impl.layouts", "loop.example/harbinger/impl.encodings"], apart := false, laid := [("loop.example/harbinger/impl.encodings", laid_loop_example_harbinger_impl_encodings), ("loop.example/harbinger/impl.layouts", laid_loop_example_harbinger_impl_layouts)] }
def FnDoSwapSaid : Prop := fnDoSwapRow.holds Tryd.pinned (OpenSpec.ofChange fnDoSwapSpec)

/-- ITS FALSE NEIGHBOUR: 'it returns false'. Refute it at one input. -/
def fnDoSwapWrong : ChangeSpec := { name := "fnDoSwap", vars := ["loop.example/harbinger/impl.layouts", "loop.example/harbinger/impl.encodings"], fn := fun _ => fun
  | [d, g1, g2] => { results := [.lit (.bool false)], args := [d], vars := [g1, g2] }
  | _ => none }
def FnDoSwapWrongFalsely : Prop := fnDoSwapRow.holds Tryd.pinned (OpenSpec.ofChange fnDoSwapWrong)

/-- 'laws.FnDoSys': WHATEVER THE INPUT: true; the input reads as it did. -/
def fnDoSysSpec : ChangeSpec := { name := "fnDoSys", vars := ["loop.example/harbinger/impl.layouts", "loop.example/harbinger/impl.encodings"], fn := fun _ => fun
  | [d, g1, g2] => { results := [.lit (.bool true)], args := [d], vars := [g1, g2] }
  | _ => none }
def fnDoSysRow : OpenClaim := { program := "ytbjapncfgancoaadoor", sum := "707b68befd3d616c76bdf71240e56f06d999b2d477f74c6fc2d1f2560c54890b", func := "loop.example/harbinger/laws.FnDoSys", spec := "fnDoSys", unfollowed := true, recurses := true, named := ["loop.example/harbinger/impl.layouts", "loop.example/harbinger/impl.encodings"], apart := false, laid := [("loop.example/harbinger/impl.encodings", laid_loop_example_harbinger_impl_encodings), ("loop.example/harbinger/impl.layouts", laid_loop_example_harbinger_impl_layouts)] }
def FnDoSysSaid : Prop := fnDoSysRow.holds Tryd.pinned (OpenSpec.ofChange fnDoSysSpec)

/-- ITS FALSE NEIGHBOUR: 'it returns false'. Refute it at one input. -/
def fnDoSysWrong : ChangeSpec := { name := "fnDoSys", vars := ["loop.example/harbinger/impl.layouts", "loop.example/harbinger/impl.encodings"], fn := fun _ => fun
  | [d, g1, g2] => { results := [.lit (.bool false)], args := [d], vars := [g1, g2] }
  | _ => none }
def FnDoSysWrongFalsely : Prop := fnDoSysRow.holds Tryd.pinned (OpenSpec.ofChange fnDoSysWrong)

/-- 'laws.FnDoOwn': WHATEVER THE INPUT: true; the input reads as it did. -/
def fnDoOwnSpec : ChangeSpec := { name := "fnDoOwn", vars := ["loop.example/harbinger/impl.layouts", "loop.example/harbinger/impl.encodings"], fn := fun _ => fun
  | [d, g1, g2] => { results := [.lit (.bool true)], args := [d], vars := [g1, g2] }
  | _ => none }
def fnDoOwnRow : OpenClaim := { program := "ytbjapncfgancoaadoor", sum := "707b68befd3d616c76bdf71240e56f06d999b2d477f74c6fc2d1f2560c54890b", func := "loop.example/harbinger/laws.FnDoOwn", spec := "fnDoOwn", unfollowed := true, recurses := true, named := ["loop.example/harbinger/impl.layouts", "loop.example/harbinger/impl.encodings"], apart := false, laid := [("loop.example/harbinger/impl.encodings", laid_loop_example_harbinger_impl_encodings), ("loop.example/harbinger/impl.layouts", laid_loop_example_harbinger_impl_layouts)] }
def FnDoOwnSaid : Prop := fnDoOwnRow.holds Tryd.pinned (OpenSpec.ofChange fnDoOwnSpec)

/-- ITS FALSE NEIGHBOUR: 'it returns false'. Refute it at one input. -/
def fnDoOwnWrong : ChangeSpec := { name := "fnDoOwn", vars := ["loop.example/harbinger/impl.layouts", "loop.example/harbinger/impl.encodings"], fn := fun _ => fun
  | [d, g1, g2] => { results := [.lit (.bool false)], args := [d], vars := [g1, g2] }
  | _ => none }
def FnDoOwnWrongFalsely : Prop := fnDoOwnRow.holds Tryd.pinned (OpenSpec.ofChange fnDoOwnWrong)

/-- 'laws.FnDoWait': WHATEVER THE INPUT: true; the input reads as it did. -/
def fnDoWaitSpec : ChangeSpec := { name := "fnDoWait", vars := ["loop.example/harbinger/impl.layouts", "loop.example/harbinger/impl.encodings"], fn := fun _ => fun
  | [d, g1, g2] => { results := [.lit (.bool true)], args := [d], vars := [g1, g2] }
  | _ => none }
def fnDoWaitRow : OpenClaim := { program := "ytbjapncfgancoaadoor", sum := "707b68befd3d616c76bdf71240e56f06d999b2d477f74c6fc2d1f2560c54890b", func := "loop.example/harbinger/laws.FnDoWait", spec := "fnDoWait", unfollowed := true, recurses := true, named := ["loop.example/harbinger/impl.layouts", "loop.example/harbinger/impl.encodings"], apart := false, laid := [("loop.example/harbinger/impl.encodings", laid_loop_example_harbinger_impl_encodings), ("loop.example/harbinger/impl.layouts", laid_loop_example_harbinger_impl_layouts)] }
def FnDoWaitSaid : Prop := fnDoWaitRow.holds Tryd.pinned (OpenSpec.ofChange fnDoWaitSpec)

/-- ITS FALSE NEIGHBOUR: 'it returns false'. Refute it at one input. -/
def fnDoWaitWrong : ChangeSpec := { name := "fnDoWait", vars := ["loop.example/harbinger/impl.layouts", "loop.example/harbinger/impl.encodings"], fn := fun _ => fun
  | [d, g1, g2] => { results := [.lit (.bool false)], args := [d], vars := [g1, g2] }
  | _ => none }
def FnDoWaitWrongFalsely : Prop := fnDoWaitRow.holds Tryd.pinned (OpenSpec.ofChange fnDoWaitWrong)

/-- 'laws.FnDoZero': WHATEVER THE INPUT: true; the input reads as it did. -/
def fnDoZeroSpec : ChangeSpec := { name := "fnDoZero", vars := ["loop.example/harbinger/impl.layouts", "loop.example/harbinger/impl.encodings"], fn := fun _ => fun
  | [d, g1, g2] => { results := [.lit (.bool true)], args := [d], vars := [g1, g2] }
  | _ => none }
def fnDoZeroRow : OpenClaim := { program := "ytbjapncfgancoaadoor", sum := "707b68befd3d616c76bdf71240e56f06d999b2d477f74c6fc2d1f2560c54890b", func := "loop.example/harbinger/laws.FnDoZero", spec := "fnDoZero", unfollowed := true, recurses := true, named := ["loop.example/harbinger/impl.layouts", "loop.example/harbinger/impl.encodings"], apart := false, laid := [("loop.example/harbinger/impl.encodings", laid_loop_example_harbinger_impl_encodings), ("loop.example/harbinger/impl.layouts", laid_loop_example_harbinger_impl_layouts)] }
def FnDoZeroSaid : Prop := fnDoZeroRow.holds Tryd.pinned (OpenSpec.ofChange fnDoZeroSpec)

/-- ITS FALSE NEIGHBOUR: 'it returns false'. Refute it at one input. -/
def fnDoZeroWrong : ChangeSpec := { name := "fnDoZero", vars := ["loop.example/harbinger/impl.layouts", "loop.example/harbinger/impl.encodings"], fn := fun _ => fun
  | [d, g1, g2] => { results := [.lit (.bool false)], args := [d], vars := [g1, g2] }
  | _ => none }
def FnDoZeroWrongFalsely : Prop := fnDoZeroRow.holds Tryd.pinned (OpenSpec.ofChange fnDoZeroWrong)

/-- 'laws.FnDoFar': WHATEVER THE INPUT: true; the input reads as it did. -/
def fnDoFarSpec : ChangeSpec := { name := "fnDoFar", vars := ["loop.example/harbinger/impl.layouts", "loop.example/harbinger/impl.encodings"], fn := fun _ => fun
  | [d, g1, g2] => { results := [.lit (.bool true)], args := [d], vars := [g1, g2] }
  | _ => none }
def fnDoFarRow : OpenClaim := { program := "ytbjapncfgancoaadoor", sum := "707b68befd3d616c76bdf71240e56f06d999b2d477f74c6fc2d1f2560c54890b", func := "loop.example/harbinger/laws.FnDoFar", spec := "fnDoFar", unfollowed := true, recurses := true, named := ["loop.example/harbinger/impl.layouts", "loop.example/harbinger/impl.encodings"], apart := false, laid := [("loop.example/harbinger/impl.encodings", laid_loop_example_harbinger_impl_encodings), ("loop.example/harbinger/impl.layouts", laid_loop_example_harbinger_impl_layouts)] }
def FnDoFarSaid : Prop := fnDoFarRow.holds Tryd.pinned (OpenSpec.ofChange fnDoFarSpec)

/-- ITS FALSE NEIGHBOUR: 'it returns false'. Refute it at one input. -/
def fnDoFarWrong : ChangeSpec := { name := "fnDoFar", vars := ["loop.example/harbinger/impl.layouts", "loop.example/harbinger/impl.encodings"], fn := fun _ => fun
  | [d, g1, g2] => { results := [.lit (.bool false)], args := [d], vars := [g1, g2] }
  | _ => none }
def FnDoFarWrongFalsely : Prop := fnDoFarRow.holds Tryd.pinned (OpenSpec.ofChange fnDoFarWrong)

/-- 'laws.FnDoPage': WHATEVER THE INPUT: true; the input reads as it did. -/
def fnDoPageSpec : ChangeSpec := { name := "fnDoPage", vars := ["loop.example/harbinger/impl.layouts", "loop.example/harbinger/impl.encodings"], fn := fun _ => fun
  | [d, g1, g2] => { results := [.lit (.bool true)], args := [d], vars := [g1, g2] }
  | _ => none }
def fnDoPageRow : OpenClaim := { program := "ytbjapncfgancoaadoor", sum := "707b68befd3d616c76bdf71240e56f06d999b2d477f74c6fc2d1f2560c54890b", func := "loop.example/harbinger/laws.FnDoPage", spec := "fnDoPage", unfollowed := true, recurses := true, named := ["loop.example/harbinger/impl.layouts", "loop.example/harbinger/impl.encodings"], apart := false, laid := [("loop.example/harbinger/impl.encodings", laid_loop_example_harbinger_impl_encodings), ("loop.example/harbinger/impl.layouts", laid_loop_example_harbinger_impl_layouts)] }
def FnDoPageSaid : Prop := fnDoPageRow.holds Tryd.pinned (OpenSpec.ofChange fnDoPageSpec)

/-- ITS FALSE NEIGHBOUR: 'it returns false'. Refute it at one input. -/
def fnDoPageWrong : ChangeSpec := { name := "fnDoPage", vars := ["loop.example/harbinger/impl.layouts", "loop.example/harbinger/impl.encodings"], fn := fun _ => fun
  | [d, g1, g2] => { results := [.lit (.bool false)], args := [d], vars := [g1, g2] }
  | _ => none }
def FnDoPageWrongFalsely : Prop := fnDoPageRow.holds Tryd.pinned (OpenSpec.ofChange fnDoPageWrong)

/- THE SECOND FORM. 'bulk': how many values and letters a reading holds, each counted each time it is reached (what is shared counts as often as it is met; a slice's spare places count too). A statement '..UptoSaid' is the law's where the arguments, and the package variables that the reading takes, are together of bulk at most 1048576: NARROWER than '..Said'. Prove '..Said' where nothing that the law and all that it calls make is longer than what came in: it says more and counts as full. Else prove '..UptoSaid'. A law counts once. -/
mutual
def uptoBulk {H : Type} : DataW H → Nat
  | .lit (.string bytes) => bytes.length + 1
  | .lit _ => 1
  | .nil => 1
  | .ptr d => uptoBulk d + 1
  | .slice elems spare => uptoBulkAll elems + uptoBulkAll spare + 1
  | .agg parts => uptoBulkAll parts + 1
  | .iface _ d => uptoBulk d + 1
  | .map entries => uptoBulkEntries entries + 1
  | .held _ => 1
def uptoBulkAll {H : Type} : List (DataW H) → Nat
  | [] => 0
  | d :: r => uptoBulk d + uptoBulkAll r
def uptoBulkEntries {H : Type} : List (Lit × DataW H) → Nat
  | [] => 0
  | x :: r => uptoBulkEntry x + uptoBulkEntries r
def uptoBulkEntry {H : Type} : Lit × DataW H → Nat
  | (.string bytes, d) => bytes.length + uptoBulk d + 1
  | (_, d) => uptoBulk d + 1
 end
def uptoSmall : (H : Type) → List (DataW H) → Bool := fun _ ds => decide (uptoBulkAll ds ≤ 1048576)
def OpenSpec.upto (s : _root_.Go.ChangeSpec) : _root_.Go.OpenSpec := { _root_.Go.OpenSpec.ofChange s with cond := some uptoSmall }

/-- 'laws.FnExactPlnStep', WHERE WHAT IT READS IS OF BULK AT MOST 1048576: true; the input reads as it did. -/
def fnExactPlnStepUptoRow : OpenClaim := { program := "ytbjapncfgancoaadoor", sum := "707b68befd3d616c76bdf71240e56f06d999b2d477f74c6fc2d1f2560c54890b", func := "loop.example/harbinger/laws.FnExactPlnStep", spec := "fnExactPlnStep", unfollowed := true, recurses := true, named := ["loop.example/harbinger/impl.layouts", "loop.example/harbinger/impl.encodings"], apart := false, laid := [("loop.example/harbinger/impl.encodings", laid_loop_example_harbinger_impl_encodings), ("loop.example/harbinger/impl.layouts", laid_loop_example_harbinger_impl_layouts)], narrowed := true }
def FnExactPlnStepUptoSaid : Prop := fnExactPlnStepUptoRow.holds Tryd.pinned (OpenSpec.upto fnExactPlnStepSpec)

/-- 'laws.FnExactPlnRun', WHERE WHAT IT READS IS OF BULK AT MOST 1048576: true; the input reads as it did. -/
def fnExactPlnRunUptoRow : OpenClaim := { program := "ytbjapncfgancoaadoor", sum := "707b68befd3d616c76bdf71240e56f06d999b2d477f74c6fc2d1f2560c54890b", func := "loop.example/harbinger/laws.FnExactPlnRun", spec := "fnExactPlnRun", unfollowed := true, recurses := true, named := ["loop.example/harbinger/impl.layouts", "loop.example/harbinger/impl.encodings"], apart := false, laid := [("loop.example/harbinger/impl.encodings", laid_loop_example_harbinger_impl_encodings), ("loop.example/harbinger/impl.layouts", laid_loop_example_harbinger_impl_layouts)], narrowed := true }
def FnExactPlnRunUptoSaid : Prop := fnExactPlnRunUptoRow.holds Tryd.pinned (OpenSpec.upto fnExactPlnRunSpec)

/-- 'laws.FnDoAlu', WHERE WHAT IT READS IS OF BULK AT MOST 1048576: true; the input reads as it did. -/
def fnDoAluUptoRow : OpenClaim := { program := "ytbjapncfgancoaadoor", sum := "707b68befd3d616c76bdf71240e56f06d999b2d477f74c6fc2d1f2560c54890b", func := "loop.example/harbinger/laws.FnDoAlu", spec := "fnDoAlu", unfollowed := true, recurses := true, named := ["loop.example/harbinger/impl.layouts", "loop.example/harbinger/impl.encodings"], apart := false, laid := [("loop.example/harbinger/impl.encodings", laid_loop_example_harbinger_impl_encodings), ("loop.example/harbinger/impl.layouts", laid_loop_example_harbinger_impl_layouts)], narrowed := true }
def FnDoAluUptoSaid : Prop := fnDoAluUptoRow.holds Tryd.pinned (OpenSpec.upto fnDoAluSpec)

/-- 'laws.FnDoImm', WHERE WHAT IT READS IS OF BULK AT MOST 1048576: true; the input reads as it did. -/
def fnDoImmUptoRow : OpenClaim := { program := "ytbjapncfgancoaadoor", sum := "707b68befd3d616c76bdf71240e56f06d999b2d477f74c6fc2d1f2560c54890b", func := "loop.example/harbinger/laws.FnDoImm", spec := "fnDoImm", unfollowed := true, recurses := true, named := ["loop.example/harbinger/impl.layouts", "loop.example/harbinger/impl.encodings"], apart := false, laid := [("loop.example/harbinger/impl.encodings", laid_loop_example_harbinger_impl_encodings), ("loop.example/harbinger/impl.layouts", laid_loop_example_harbinger_impl_layouts)], narrowed := true }
def FnDoImmUptoSaid : Prop := fnDoImmUptoRow.holds Tryd.pinned (OpenSpec.upto fnDoImmSpec)

/-- 'laws.FnDoMul', WHERE WHAT IT READS IS OF BULK AT MOST 1048576: true; the input reads as it did. -/
def fnDoMulUptoRow : OpenClaim := { program := "ytbjapncfgancoaadoor", sum := "707b68befd3d616c76bdf71240e56f06d999b2d477f74c6fc2d1f2560c54890b", func := "loop.example/harbinger/laws.FnDoMul", spec := "fnDoMul", unfollowed := true, recurses := true, named := ["loop.example/harbinger/impl.layouts", "loop.example/harbinger/impl.encodings"], apart := false, laid := [("loop.example/harbinger/impl.encodings", laid_loop_example_harbinger_impl_encodings), ("loop.example/harbinger/impl.layouts", laid_loop_example_harbinger_impl_layouts)], narrowed := true }
def FnDoMulUptoSaid : Prop := fnDoMulUptoRow.holds Tryd.pinned (OpenSpec.upto fnDoMulSpec)

/-- 'laws.FnDoEq', WHERE WHAT IT READS IS OF BULK AT MOST 1048576: true; the input reads as it did. -/
def fnDoEqUptoRow : OpenClaim := { program := "ytbjapncfgancoaadoor", sum := "707b68befd3d616c76bdf71240e56f06d999b2d477f74c6fc2d1f2560c54890b", func := "loop.example/harbinger/laws.FnDoEq", spec := "fnDoEq", unfollowed := true, recurses := true, named := ["loop.example/harbinger/impl.layouts", "loop.example/harbinger/impl.encodings"], apart := false, laid := [("loop.example/harbinger/impl.encodings", laid_loop_example_harbinger_impl_encodings), ("loop.example/harbinger/impl.layouts", laid_loop_example_harbinger_impl_layouts)], narrowed := true }
def FnDoEqUptoSaid : Prop := fnDoEqUptoRow.holds Tryd.pinned (OpenSpec.upto fnDoEqSpec)

/-- 'laws.FnDoLt', WHERE WHAT IT READS IS OF BULK AT MOST 1048576: true; the input reads as it did. -/
def fnDoLtUptoRow : OpenClaim := { program := "ytbjapncfgancoaadoor", sum := "707b68befd3d616c76bdf71240e56f06d999b2d477f74c6fc2d1f2560c54890b", func := "loop.example/harbinger/laws.FnDoLt", spec := "fnDoLt", unfollowed := true, recurses := true, named := ["loop.example/harbinger/impl.layouts", "loop.example/harbinger/impl.encodings"], apart := false, laid := [("loop.example/harbinger/impl.encodings", laid_loop_example_harbinger_impl_encodings), ("loop.example/harbinger/impl.layouts", laid_loop_example_harbinger_impl_layouts)], narrowed := true }
def FnDoLtUptoSaid : Prop := fnDoLtUptoRow.holds Tryd.pinned (OpenSpec.upto fnDoLtSpec)

/-- 'laws.FnDoJump', WHERE WHAT IT READS IS OF BULK AT MOST 1048576: true; the input reads as it did. -/
def fnDoJumpUptoRow : OpenClaim := { program := "ytbjapncfgancoaadoor", sum := "707b68befd3d616c76bdf71240e56f06d999b2d477f74c6fc2d1f2560c54890b", func := "loop.example/harbinger/laws.FnDoJump", spec := "fnDoJump", unfollowed := true, recurses := true, named := ["loop.example/harbinger/impl.layouts", "loop.example/harbinger/impl.encodings"], apart := false, laid := [("loop.example/harbinger/impl.encodings", laid_loop_example_harbinger_impl_encodings), ("loop.example/harbinger/impl.layouts", laid_loop_example_harbinger_impl_layouts)], narrowed := true }
def FnDoJumpUptoSaid : Prop := fnDoJumpUptoRow.holds Tryd.pinned (OpenSpec.upto fnDoJumpSpec)

/-- 'laws.FnDoMem', WHERE WHAT IT READS IS OF BULK AT MOST 1048576: true; the input reads as it did. -/
def fnDoMemUptoRow : OpenClaim := { program := "ytbjapncfgancoaadoor", sum := "707b68befd3d616c76bdf71240e56f06d999b2d477f74c6fc2d1f2560c54890b", func := "loop.example/harbinger/laws.FnDoMem", spec := "fnDoMem", unfollowed := true, recurses := true, named := ["loop.example/harbinger/impl.layouts", "loop.example/harbinger/impl.encodings"], apart := false, laid := [("loop.example/harbinger/impl.encodings", laid_loop_example_harbinger_impl_encodings), ("loop.example/harbinger/impl.layouts", laid_loop_example_harbinger_impl_layouts)], narrowed := true }
def FnDoMemUptoSaid : Prop := fnDoMemUptoRow.holds Tryd.pinned (OpenSpec.upto fnDoMemSpec)

/-- 'laws.FnDoSwap', WHERE WHAT IT READS IS OF BULK AT MOST 1048576: true; the input reads as it did. -/
def fnDoSwapUptoRow : OpenClaim := { program := "ytbjapncfgancoaadoor", sum := "707b68befd3d616c76bdf71240e56f06d999b2d477f74c6fc2d1f2560c54890b", func := "loop.example/harbinger/laws.FnDoSwap", spec := "fnDoSwap", unfollowed := true, recurses := true, named := ["loop.example/harbinger/impl.layouts", "loop.example/harbinger/impl.encodings"], apart := false, laid := [("loop.example/harbinger/impl.encodings", laid_loop_example_harbinger_impl_encodings), ("loop.example/harbinger/impl.layouts", laid_loop_example_harbinger_impl_layouts)], narrowed := true }
def FnDoSwapUptoSaid : Prop := fnDoSwapUptoRow.holds Tryd.pinned (OpenSpec.upto fnDoSwapSpec)

/-- 'laws.FnDoSys', WHERE WHAT IT READS IS OF BULK AT MOST 1048576: true; the input reads as it did. -/
def fnDoSysUptoRow : OpenClaim := { program := "ytbjapncfgancoaadoor", sum := "707b68befd3d616c76bdf71240e56f06d999b2d477f74c6fc2d1f2560c54890b", func := "loop.example/harbinger/laws.FnDoSys", spec := "fnDoSys", unfollowed := true, recurses := true, named := ["loop.example/harbinger/impl.layouts", "loop.example/harbinger/impl.encodings"], apart := false, laid := [("loop.example/harbinger/impl.encodings", laid_loop_example_harbinger_impl_encodings), ("loop.example/harbinger/impl.layouts", laid_loop_example_harbinger_impl_layouts)], narrowed := true }
def FnDoSysUptoSaid : Prop := fnDoSysUptoRow.holds Tryd.pinned (OpenSpec.upto fnDoSysSpec)

/-- 'laws.FnDoOwn', WHERE WHAT IT READS IS OF BULK AT MOST 1048576: true; the input reads as it did. -/
def fnDoOwnUptoRow : OpenClaim := { program := "ytbjapncfgancoaadoor", sum := "707b68befd3d616c76bdf71240e56f06d999b2d477f74c6fc2d1f2560c54890b", func := "loop.example/harbinger/laws.FnDoOwn", spec := "fnDoOwn", unfollowed := true, recurses := true, named := ["loop.example/harbinger/impl.layouts", "loop.example/harbinger/impl.encodings"], apart := false, laid := [("loop.example/harbinger/impl.encodings", laid_loop_example_harbinger_impl_encodings), ("loop.example/harbinger/impl.layouts", laid_loop_example_harbinger_impl_layouts)], narrowed := true }
def FnDoOwnUptoSaid : Prop := fnDoOwnUptoRow.holds Tryd.pinned (OpenSpec.upto fnDoOwnSpec)

/-- 'laws.FnDoWait', WHERE WHAT IT READS IS OF BULK AT MOST 1048576: true; the input reads as it did. -/
def fnDoWaitUptoRow : OpenClaim := { program := "ytbjapncfgancoaadoor", sum := "707b68befd3d616c76bdf71240e56f06d999b2d477f74c6fc2d1f2560c54890b", func := "loop.example/harbinger/laws.FnDoWait", spec := "fnDoWait", unfollowed := true, recurses := true, named := ["loop.example/harbinger/impl.layouts", "loop.example/harbinger/impl.encodings"], apart := false, laid := [("loop.example/harbinger/impl.encodings", laid_loop_example_harbinger_impl_encodings), ("loop.example/harbinger/impl.layouts", laid_loop_example_harbinger_impl_layouts)], narrowed := true }
def FnDoWaitUptoSaid : Prop := fnDoWaitUptoRow.holds Tryd.pinned (OpenSpec.upto fnDoWaitSpec)

/-- 'laws.FnDoZero', WHERE WHAT IT READS IS OF BULK AT MOST 1048576: true; the input reads as it did. -/
def fnDoZeroUptoRow : OpenClaim := { program := "ytbjapncfgancoaadoor", sum := "707b68befd3d616c76bdf71240e56f06d999b2d477f74c6fc2d1f2560c54890b", func := "loop.example/harbinger/laws.FnDoZero", spec := "fnDoZero", unfollowed := true, recurses := true, named := ["loop.example/harbinger/impl.layouts", "loop.example/harbinger/impl.encodings"], apart := false, laid := [("loop.example/harbinger/impl.encodings", laid_loop_example_harbinger_impl_encodings), ("loop.example/harbinger/impl.layouts", laid_loop_example_harbinger_impl_layouts)], narrowed := true }
def FnDoZeroUptoSaid : Prop := fnDoZeroUptoRow.holds Tryd.pinned (OpenSpec.upto fnDoZeroSpec)

/-- 'laws.FnDoFar', WHERE WHAT IT READS IS OF BULK AT MOST 1048576: true; the input reads as it did. -/
def fnDoFarUptoRow : OpenClaim := { program := "ytbjapncfgancoaadoor", sum := "707b68befd3d616c76bdf71240e56f06d999b2d477f74c6fc2d1f2560c54890b", func := "loop.example/harbinger/laws.FnDoFar", spec := "fnDoFar", unfollowed := true, recurses := true, named := ["loop.example/harbinger/impl.layouts", "loop.example/harbinger/impl.encodings"], apart := false, laid := [("loop.example/harbinger/impl.encodings", laid_loop_example_harbinger_impl_encodings), ("loop.example/harbinger/impl.layouts", laid_loop_example_harbinger_impl_layouts)], narrowed := true }
def FnDoFarUptoSaid : Prop := fnDoFarUptoRow.holds Tryd.pinned (OpenSpec.upto fnDoFarSpec)

/-- 'laws.FnDoPage', WHERE WHAT IT READS IS OF BULK AT MOST 1048576: true; the input reads as it did. -/
def fnDoPageUptoRow : OpenClaim := { program := "ytbjapncfgancoaadoor", sum := "707b68befd3d616c76bdf71240e56f06d999b2d477f74c6fc2d1f2560c54890b", func := "loop.example/harbinger/laws.FnDoPage", spec := "fnDoPage", unfollowed := true, recurses := true, named := ["loop.example/harbinger/impl.layouts", "loop.example/harbinger/impl.encodings"], apart := false, laid := [("loop.example/harbinger/impl.encodings", laid_loop_example_harbinger_impl_encodings), ("loop.example/harbinger/impl.layouts", laid_loop_example_harbinger_impl_layouts)], narrowed := true }
def FnDoPageUptoSaid : Prop := fnDoPageUptoRow.holds Tryd.pinned (OpenSpec.upto fnDoPageSpec)

end Rows
end Go.Proofs.YtbjapncfgancoaaDoor
