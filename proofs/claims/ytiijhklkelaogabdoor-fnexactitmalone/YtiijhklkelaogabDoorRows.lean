/-
  NARROWER THAN 'FOR EVERY INPUT', by the rows' own cells (each row's printed sentence says how): FnExactItmAlone: laid · FnExactItmOk: laid.
  DERIVED. THE GIVEN ROWS OF THIS SEAT. 2 by the template 'for every input the law returns true; each argument reads behind the call as it read before'; 0 by the template 'total and deterministic' (their statements: YtiijhklkelaogabDoorTotals.lean).
  GIVEN WITH THE SEED: the statements are not yours to turn. If you find one false, say at which input.
  Laid BY PROGRAM, IN A SANDBOX (cutbox-rows.mjs): the forced cells as the released guide's own fill.sh prints them over the translation 10c6c6fe001adb6f… (all of the seat's roots in one cut). By AI agents, Wed Nov 11 2026. No macro, syntax, notation, axiom, sorry.
-/
import Derived.Test.YtiijhklkelaogabDoorChecked
import GoSem.Claim
import GoSem.ClaimJoined
import GoSem.ClaimMapViews
import Derived.JoinedTies
import Derived.KernelRfl
namespace Go.Proofs.YtiijhklkelaogabDoor
/- THE CELL 'sum', in the pinned program and in every row, IS THE sha256 OF THE DUMP (.gsa) THAT YtiijhklkelaogabDoorProg.lean LOADS. Nothing in Lean hashes anything: it is a label: what it is worth is what the hold of that sum in a sandbox is worth. -/
noncomputable def Tryd.pinned : Pinned := { name := "ytiijhklkelaogabdoor", sum := "10c6c6fe001adb6ffaff45ecda5d2b8b3d346b581347c42628653f0983df37af", checked := Tryd.checked }
namespace Rows
def none {H : Type} : Left H := { results := [], args := [] }

/- WHAT THE LISTED PACKAGE-LEVEL VARIABLES READ AS WHEN THE CALL BEGINS. Each datum BY PROGRAM (the guide's laid-datum.mjs) off the statement by which the dump's own 'gosem.cut.vars' lays the variable. In a bare row this is a premise. The card (YtiijhklkelaogabDoorCards.lean) ties it to the program's text. -/
def laid_loop_example_harbinger_impl_encodings {H : Type} : DataW H := .agg [.agg [.lit (.int .i64 0), .lit (.int .i64 0), .lit (.int .i64 0)], .agg [.lit (.int .i64 3), .lit (.int .i64 0), .lit (.int .i64 7)], .agg [.lit (.int .i64 3), .lit (.int .i64 0), .lit (.int .i64 7)], .agg [.lit (.int .i64 3), .lit (.int .i64 0), .lit (.int .i64 4)], .agg [.lit (.int .i64 6), .lit (.int .i64 (-32)), .lit (.int .i64 31)], .agg [.lit (.int .i64 9), .lit (.int .i64 (-256)), .lit (.int .i64 255)], .agg [.lit (.int .i64 9), .lit (.int .i64 0), .lit (.int .i64 511)]]
def laid_loop_example_harbinger_impl_layouts {H : Type} : DataW H := .agg [.agg [.lit (.int .i64 1), .lit (.int .i64 1), .lit (.int .i64 1), .lit (.int .i64 2), .lit (.int .i64 0)], .agg [.lit (.int .i64 1), .lit (.int .i64 1), .lit (.int .i64 0), .lit (.int .i64 0), .lit (.int .i64 4)], .agg [.lit (.int .i64 1), .lit (.int .i64 0), .lit (.int .i64 0), .lit (.int .i64 0), .lit (.int .i64 6)], .agg [.lit (.int .i64 1), .lit (.int .i64 1), .lit (.int .i64 0), .lit (.int .i64 0), .lit (.int .i64 4)], .agg [.lit (.int .i64 0), .lit (.int .i64 1), .lit (.int .i64 1), .lit (.int .i64 0), .lit (.int .i64 4)], .agg [.lit (.int .i64 0), .lit (.int .i64 1), .lit (.int .i64 1), .lit (.int .i64 0), .lit (.int .i64 4)], .agg [.lit (.int .i64 0), .lit (.int .i64 1), .lit (.int .i64 1), .lit (.int .i64 0), .lit (.int .i64 4)], .agg [.lit (.int .i64 1), .lit (.int .i64 0), .lit (.int .i64 0), .lit (.int .i64 0), .lit (.int .i64 5)], .agg [.lit (.int .i64 1), .lit (.int .i64 1), .lit (.int .i64 0), .lit (.int .i64 0), .lit (.int .i64 4)], .agg [.lit (.int .i64 1), .lit (.int .i64 1), .lit (.int .i64 1), .lit (.int .i64 0), .lit (.int .i64 0)], .agg [.lit (.int .i64 1), .lit (.int .i64 1), .lit (.int .i64 1), .lit (.int .i64 0), .lit (.int .i64 0)], .agg [.lit (.int .i64 0), .lit (.int .i64 0), .lit (.int .i64 0), .lit (.int .i64 0), .lit (.int .i64 0)], .agg [.lit (.int .i64 0), .lit (.int .i64 0), .lit (.int .i64 0), .lit (.int .i64 0), .lit (.int .i64 6)], .agg [.lit (.int .i64 0), .lit (.int .i64 0), .lit (.int .i64 0), .lit (.int .i64 0), .lit (.int .i64 0)], .agg [.lit (.int .i64 1), .lit (.int .i64 0), .lit (.int .i64 0), .lit (.int .i64 3), .lit (.int .i64 0)], .agg [.lit (.int .i64 0), .lit (.int .i64 1), .lit (.int .i64 0), .lit (.int .i64 3), .lit (.int .i64 0)]]

/-- 'laws.FnExactItmAlone': WHATEVER THE INPUT: true; the input reads as it did. -/
def fnExactItmAloneSpec : ChangeSpec := { name := "fnExactItmAlone", vars := ["loop.example/harbinger/impl.layouts", "loop.example/harbinger/impl.encodings"], fn := fun _ => fun
  | [d, g1, g2] => { results := [.lit (.bool true)], args := [d], vars := [g1, g2] }
  | _ => none }
def fnExactItmAloneRow : OpenClaim := { program := "ytiijhklkelaogabdoor", sum := "10c6c6fe001adb6ffaff45ecda5d2b8b3d346b581347c42628653f0983df37af", func := "loop.example/harbinger/laws.FnExactItmAlone", spec := "fnExactItmAlone", named := ["loop.example/harbinger/impl.layouts", "loop.example/harbinger/impl.encodings"], apart := false, laid := [("loop.example/harbinger/impl.encodings", laid_loop_example_harbinger_impl_encodings), ("loop.example/harbinger/impl.layouts", laid_loop_example_harbinger_impl_layouts)] }
def FnExactItmAloneSaid : Prop := fnExactItmAloneRow.holds Tryd.pinned (OpenSpec.ofChange fnExactItmAloneSpec)

/-- ITS FALSE NEIGHBOUR: 'it returns false'. Refute it at one input. -/
def fnExactItmAloneWrong : ChangeSpec := { name := "fnExactItmAlone", vars := ["loop.example/harbinger/impl.layouts", "loop.example/harbinger/impl.encodings"], fn := fun _ => fun
  | [d, g1, g2] => { results := [.lit (.bool false)], args := [d], vars := [g1, g2] }
  | _ => none }
def FnExactItmAloneWrongFalsely : Prop := fnExactItmAloneRow.holds Tryd.pinned (OpenSpec.ofChange fnExactItmAloneWrong)

/-- 'laws.FnExactItmOk': WHATEVER THE INPUT: true; the input reads as it did. -/
def fnExactItmOkSpec : ChangeSpec := { name := "fnExactItmOk", vars := ["loop.example/harbinger/impl.layouts", "loop.example/harbinger/impl.encodings"], fn := fun _ => fun
  | [d, g1, g2] => { results := [.lit (.bool true)], args := [d], vars := [g1, g2] }
  | _ => none }
def fnExactItmOkRow : OpenClaim := { program := "ytiijhklkelaogabdoor", sum := "10c6c6fe001adb6ffaff45ecda5d2b8b3d346b581347c42628653f0983df37af", func := "loop.example/harbinger/laws.FnExactItmOk", spec := "fnExactItmOk", named := ["loop.example/harbinger/impl.layouts", "loop.example/harbinger/impl.encodings"], apart := false, laid := [("loop.example/harbinger/impl.encodings", laid_loop_example_harbinger_impl_encodings), ("loop.example/harbinger/impl.layouts", laid_loop_example_harbinger_impl_layouts)] }
def FnExactItmOkSaid : Prop := fnExactItmOkRow.holds Tryd.pinned (OpenSpec.ofChange fnExactItmOkSpec)

/-- ITS FALSE NEIGHBOUR: 'it returns false'. Refute it at one input. -/
def fnExactItmOkWrong : ChangeSpec := { name := "fnExactItmOk", vars := ["loop.example/harbinger/impl.layouts", "loop.example/harbinger/impl.encodings"], fn := fun _ => fun
  | [d, g1, g2] => { results := [.lit (.bool false)], args := [d], vars := [g1, g2] }
  | _ => none }
def FnExactItmOkWrongFalsely : Prop := fnExactItmOkRow.holds Tryd.pinned (OpenSpec.ofChange fnExactItmOkWrong)

/- THE SECOND FORM. 'bulk': how many values and letters a reading holds, each counted each time it is reached (what is shared counts as often as it is met; a slice's spare places count too). A statement '..UptoSaid' is the law's where the arguments, and the package variables that the reading takes, are together of bulk at most 1048576: NARROWER than '..Said'. Prove '..Said' where nothing that the law and all that it calls make is longer than what came in: it says more and counts as full. Else prove '..UptoSaid'. A law counts once. -/
mutual
def uptoBulk {H : Type} : DataW H → Nat
  | .lit (.string bytes) => bytes.length + 1
  | .lit _ => 1
  | .nil => 1
  | .ptr d => uptoBulk d + 1
  | .slice elems spare => uptoBulkAll elems + uptoBulkAll spare + 1
  | .agg parts => uptoBulkAll parts + 1
  | .iface _ d => uptoBulk d + 1
  | .map entries => uptoBulkEntries entries + 1
  | .held _ => 1
def uptoBulkAll {H : Type} : List (DataW H) → Nat
  | [] => 0
  | d :: r => uptoBulk d + uptoBulkAll r
def uptoBulkEntries {H : Type} : List (Lit × DataW H) → Nat
  | [] => 0
  | x :: r => uptoBulkEntry x + uptoBulkEntries r
def uptoBulkEntry {H : Type} : Lit × DataW H → Nat
  | (.string bytes, d) => bytes.length + uptoBulk d + 1
  | (_, d) => uptoBulk d + 1
 end
def uptoSmall : (H : Type) → List (DataW H) → Bool := fun _ ds => decide (uptoBulkAll ds ≤ 1048576)
def OpenSpec.upto (s : _root_.Go.ChangeSpec) : _root_.Go.OpenSpec := { _root_.Go.OpenSpec.ofChange s with cond := some uptoSmall }

/-- 'laws.FnExactItmAlone', WHERE WHAT IT READS IS OF BULK AT MOST 1048576: true; the input reads as it did. -/
def fnExactItmAloneUptoRow : OpenClaim := { program := "ytiijhklkelaogabdoor", sum := "10c6c6fe001adb6ffaff45ecda5d2b8b3d346b581347c42628653f0983df37af", func := "loop.example/harbinger/laws.FnExactItmAlone", spec := "fnExactItmAlone", named := ["loop.example/harbinger/impl.layouts", "loop.example/harbinger/impl.encodings"], apart := false, laid := [("loop.example/harbinger/impl.encodings", laid_loop_example_harbinger_impl_encodings), ("loop.example/harbinger/impl.layouts", laid_loop_example_harbinger_impl_layouts)], narrowed := true }
def FnExactItmAloneUptoSaid : Prop := fnExactItmAloneUptoRow.holds Tryd.pinned (OpenSpec.upto fnExactItmAloneSpec)

/-- 'laws.FnExactItmOk', WHERE WHAT IT READS IS OF BULK AT MOST 1048576: true; the input reads as it did. -/
def fnExactItmOkUptoRow : OpenClaim := { program := "ytiijhklkelaogabdoor", sum := "10c6c6fe001adb6ffaff45ecda5d2b8b3d346b581347c42628653f0983df37af", func := "loop.example/harbinger/laws.FnExactItmOk", spec := "fnExactItmOk", named := ["loop.example/harbinger/impl.layouts", "loop.example/harbinger/impl.encodings"], apart := false, laid := [("loop.example/harbinger/impl.encodings", laid_loop_example_harbinger_impl_encodings), ("loop.example/harbinger/impl.layouts", laid_loop_example_harbinger_impl_layouts)], narrowed := true }
def FnExactItmOkUptoSaid : Prop := fnExactItmOkUptoRow.holds Tryd.pinned (OpenSpec.upto fnExactItmOkSpec)

end Rows
end Go.Proofs.YtiijhklkelaogabDoor
