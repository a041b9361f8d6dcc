/-
  No cell of these rows narrows 'for every input' (looked for: loops, veiled, ifaces, maps, wideKeys, modest, calm, conditions, laid).
  DERIVED. THE GIVEN ROWS OF THIS SEAT. 15 by the template 'for every input the law returns true; each argument reads behind the call as it read before'; 0 by the template 'total and deterministic' (their statements: YtoacgjjpipdkjaaTotals.lean).
  GIVEN WITH THE SEED: the statements are not yours to turn. If you find one false, say at which input.
  Laid BY PROGRAM, IN A SANDBOX (cutbox-rows.mjs): the forced cells as the released guide's own fill.sh prints them over the translation 351b717ab3d7e6e1… (all of the seat's roots in one cut). By AI agents, Wed Nov 11 2026. No macro, syntax, notation, axiom, sorry.
-/
import Derived.Test.YtoacgjjpipdkjaaChecked
import GoSem.Claim
import GoSem.ClaimJoined
import GoSem.ClaimMapViews
import Derived.JoinedTies
import Derived.KernelRfl
namespace Go.Proofs.Ytoacgjjpipdkjaa
/- THE CELL 'sum', in the pinned program and in every row, IS THE sha256 OF THE DUMP (.gsa) THAT YtoacgjjpipdkjaaProg.lean LOADS. Nothing in Lean hashes anything: it is a label: what it is worth is what the hold of that sum in a sandbox is worth. -/
noncomputable def Try.pinned : Pinned := { name := "ytoacgjjpipdkjaa", sum := "351b717ab3d7e6e17ac52b137e5dfc319c02a32403b3b1c0a9d0e19689193497", checked := Try.checked }
namespace Rows
def none {H : Type} : Left H := { results := [], args := [] }

/-- 'laws.FnExactChcLook': WHATEVER THE INPUT: true; the input reads as it did. -/
def fnExactChcLookSpec : ChangeSpec := { name := "fnExactChcLook", fn := fun _ => fun
  | [d1, d2] => { results := [.lit (.bool true)], args := [d1, d2] }
  | _ => none }
def fnExactChcLookRow : OpenClaim := { program := "ytoacgjjpipdkjaa", sum := "351b717ab3d7e6e17ac52b137e5dfc319c02a32403b3b1c0a9d0e19689193497", func := "loop.example/harbinger/laws.FnExactChcLook", spec := "fnExactChcLook", unfollowed := true, recurses := true, apart := false }
def FnExactChcLookSaid : Prop := fnExactChcLookRow.holds Try.pinned (OpenSpec.ofChange fnExactChcLookSpec)

/-- ITS FALSE NEIGHBOUR: 'it returns false'. Refute it at one input. -/
def fnExactChcLookWrong : ChangeSpec := { name := "fnExactChcLook", fn := fun _ => fun
  | [d1, d2] => { results := [.lit (.bool false)], args := [d1, d2] }
  | _ => none }
def FnExactChcLookWrongFalsely : Prop := fnExactChcLookRow.holds Try.pinned (OpenSpec.ofChange fnExactChcLookWrong)

/-- 'laws.FnExactChcRead': WHATEVER THE INPUT: true; the input reads as it did. -/
def fnExactChcReadSpec : ChangeSpec := { name := "fnExactChcRead", fn := fun _ => fun
  | [d1, d2] => { results := [.lit (.bool true)], args := [d1, d2] }
  | _ => none }
def fnExactChcReadRow : OpenClaim := { program := "ytoacgjjpipdkjaa", sum := "351b717ab3d7e6e17ac52b137e5dfc319c02a32403b3b1c0a9d0e19689193497", func := "loop.example/harbinger/laws.FnExactChcRead", spec := "fnExactChcRead", unfollowed := true, recurses := true, apart := false }
def FnExactChcReadSaid : Prop := fnExactChcReadRow.holds Try.pinned (OpenSpec.ofChange fnExactChcReadSpec)

/-- ITS FALSE NEIGHBOUR: 'it returns false'. Refute it at one input. -/
def fnExactChcReadWrong : ChangeSpec := { name := "fnExactChcRead", fn := fun _ => fun
  | [d1, d2] => { results := [.lit (.bool false)], args := [d1, d2] }
  | _ => none }
def FnExactChcReadWrongFalsely : Prop := fnExactChcReadRow.holds Try.pinned (OpenSpec.ofChange fnExactChcReadWrong)

/-- 'laws.FnExactChcWrite': WHATEVER THE INPUT: true; the input reads as it did. -/
def fnExactChcWriteSpec : ChangeSpec := { name := "fnExactChcWrite", fn := fun _ => fun
  | [d1, d2, d3] => { results := [.lit (.bool true)], args := [d1, d2, d3] }
  | _ => none }
def fnExactChcWriteRow : OpenClaim := { program := "ytoacgjjpipdkjaa", sum := "351b717ab3d7e6e17ac52b137e5dfc319c02a32403b3b1c0a9d0e19689193497", func := "loop.example/harbinger/laws.FnExactChcWrite", spec := "fnExactChcWrite", unfollowed := true, recurses := true, apart := false }
def FnExactChcWriteSaid : Prop := fnExactChcWriteRow.holds Try.pinned (OpenSpec.ofChange fnExactChcWriteSpec)

/-- ITS FALSE NEIGHBOUR: 'it returns false'. Refute it at one input. -/
def fnExactChcWriteWrong : ChangeSpec := { name := "fnExactChcWrite", fn := fun _ => fun
  | [d1, d2, d3] => { results := [.lit (.bool false)], args := [d1, d2, d3] }
  | _ => none }
def FnExactChcWriteWrongFalsely : Prop := fnExactChcWriteRow.holds Try.pinned (OpenSpec.ofChange fnExactChcWriteWrong)

/-- 'laws.FnExactChcLay': WHATEVER THE INPUT: true; the input reads as it did. -/
def fnExactChcLaySpec : ChangeSpec := { name := "fnExactChcLay", fn := fun _ => fun
  | [d1, d2, d3] => { results := [.lit (.bool true)], args := [d1, d2, d3] }
  | _ => none }
def fnExactChcLayRow : OpenClaim := { program := "ytoacgjjpipdkjaa", sum := "351b717ab3d7e6e17ac52b137e5dfc319c02a32403b3b1c0a9d0e19689193497", func := "loop.example/harbinger/laws.FnExactChcLay", spec := "fnExactChcLay", unfollowed := true, recurses := true, apart := false }
def FnExactChcLaySaid : Prop := fnExactChcLayRow.holds Try.pinned (OpenSpec.ofChange fnExactChcLaySpec)

/-- ITS FALSE NEIGHBOUR: 'it returns false'. Refute it at one input. -/
def fnExactChcLayWrong : ChangeSpec := { name := "fnExactChcLay", fn := fun _ => fun
  | [d1, d2, d3] => { results := [.lit (.bool false)], args := [d1, d2, d3] }
  | _ => none }
def FnExactChcLayWrongFalsely : Prop := fnExactChcLayRow.holds Try.pinned (OpenSpec.ofChange fnExactChcLayWrong)

/-- 'laws.FnExactChcAll': WHATEVER THE INPUT: true; the input reads as it did. -/
def fnExactChcAllSpec : ChangeSpec := { name := "fnExactChcAll", fn := fun _ => fun
  | [d] => { results := [.lit (.bool true)], args := [d] }
  | _ => none }
def fnExactChcAllRow : OpenClaim := { program := "ytoacgjjpipdkjaa", sum := "351b717ab3d7e6e17ac52b137e5dfc319c02a32403b3b1c0a9d0e19689193497", func := "loop.example/harbinger/laws.FnExactChcAll", spec := "fnExactChcAll", unfollowed := true, recurses := true, apart := false }
def FnExactChcAllSaid : Prop := fnExactChcAllRow.holds Try.pinned (OpenSpec.ofChange fnExactChcAllSpec)

/-- ITS FALSE NEIGHBOUR: 'it returns false'. Refute it at one input. -/
def fnExactChcAllWrong : ChangeSpec := { name := "fnExactChcAll", fn := fun _ => fun
  | [d] => { results := [.lit (.bool false)], args := [d] }
  | _ => none }
def FnExactChcAllWrongFalsely : Prop := fnExactChcAllRow.holds Try.pinned (OpenSpec.ofChange fnExactChcAllWrong)

/-- 'laws.FnExactInOk': WHATEVER THE INPUT: true; the input reads as it did. -/
def fnExactInOkSpec : ChangeSpec := { name := "fnExactInOk", fn := fun _ => fun
  | [d] => { results := [.lit (.bool true)], args := [d] }
  | _ => none }
def fnExactInOkRow : OpenClaim := { program := "ytoacgjjpipdkjaa", sum := "351b717ab3d7e6e17ac52b137e5dfc319c02a32403b3b1c0a9d0e19689193497", func := "loop.example/harbinger/laws.FnExactInOk", spec := "fnExactInOk", unfollowed := true, recurses := true, apart := false }
def FnExactInOkSaid : Prop := fnExactInOkRow.holds Try.pinned (OpenSpec.ofChange fnExactInOkSpec)

/-- ITS FALSE NEIGHBOUR: 'it returns false'. Refute it at one input. -/
def fnExactInOkWrong : ChangeSpec := { name := "fnExactInOk", fn := fun _ => fun
  | [d] => { results := [.lit (.bool false)], args := [d] }
  | _ => none }
def FnExactInOkWrongFalsely : Prop := fnExactInOkRow.holds Try.pinned (OpenSpec.ofChange fnExactInOkWrong)

/-- 'laws.FnExactInAll': WHATEVER THE INPUT: true; the input reads as it did. -/
def fnExactInAllSpec : ChangeSpec := { name := "fnExactInAll", fn := fun _ => fun
  | [] => { results := [.lit (.bool true)], args := [] }
  | _ => none }
def fnExactInAllRow : OpenClaim := { program := "ytoacgjjpipdkjaa", sum := "351b717ab3d7e6e17ac52b137e5dfc319c02a32403b3b1c0a9d0e19689193497", func := "loop.example/harbinger/laws.FnExactInAll", spec := "fnExactInAll", apart := false }
def FnExactInAllSaid : Prop := fnExactInAllRow.holds Try.pinned (OpenSpec.ofChange fnExactInAllSpec)

/-- ITS FALSE NEIGHBOUR: 'it returns false'. Refute it at one input. -/
def fnExactInAllWrong : ChangeSpec := { name := "fnExactInAll", fn := fun _ => fun
  | [] => { results := [.lit (.bool false)], args := [] }
  | _ => none }
def FnExactInAllWrongFalsely : Prop := fnExactInAllRow.holds Try.pinned (OpenSpec.ofChange fnExactInAllWrong)

/-- 'laws.FnInOk': WHATEVER THE INPUT: true; the input reads as it did. -/
def fnInOkSpec : ChangeSpec := { name := "fnInOk", fn := fun _ => fun
  | [d] => { results := [.lit (.bool true)], args := [d] }
  | _ => none }
def fnInOkRow : OpenClaim := { program := "ytoacgjjpipdkjaa", sum := "351b717ab3d7e6e17ac52b137e5dfc319c02a32403b3b1c0a9d0e19689193497", func := "loop.example/harbinger/laws.FnInOk", spec := "fnInOk", unfollowed := true, recurses := true, apart := false }
def FnInOkSaid : Prop := fnInOkRow.holds Try.pinned (OpenSpec.ofChange fnInOkSpec)

/-- ITS FALSE NEIGHBOUR: 'it returns false'. Refute it at one input. -/
def fnInOkWrong : ChangeSpec := { name := "fnInOk", fn := fun _ => fun
  | [d] => { results := [.lit (.bool false)], args := [d] }
  | _ => none }
def FnInOkWrongFalsely : Prop := fnInOkRow.holds Try.pinned (OpenSpec.ofChange fnInOkWrong)

/-- 'laws.FnChcOk': WHATEVER THE INPUT: true; the input reads as it did. -/
def fnChcOkSpec : ChangeSpec := { name := "fnChcOk", fn := fun _ => fun
  | [d] => { results := [.lit (.bool true)], args := [d] }
  | _ => none }
def fnChcOkRow : OpenClaim := { program := "ytoacgjjpipdkjaa", sum := "351b717ab3d7e6e17ac52b137e5dfc319c02a32403b3b1c0a9d0e19689193497", func := "loop.example/harbinger/laws.FnChcOk", spec := "fnChcOk", apart := false }
def FnChcOkSaid : Prop := fnChcOkRow.holds Try.pinned (OpenSpec.ofChange fnChcOkSpec)

/-- ITS FALSE NEIGHBOUR: 'it returns false'. Refute it at one input. -/
def fnChcOkWrong : ChangeSpec := { name := "fnChcOk", fn := fun _ => fun
  | [d] => { results := [.lit (.bool false)], args := [d] }
  | _ => none }
def FnChcOkWrongFalsely : Prop := fnChcOkRow.holds Try.pinned (OpenSpec.ofChange fnChcOkWrong)

/-- 'laws.FnChcNew': WHATEVER THE INPUT: true; the input reads as it did. -/
def fnChcNewSpec : ChangeSpec := { name := "fnChcNew", fn := fun _ => fun
  | [d] => { results := [.lit (.bool true)], args := [d] }
  | _ => none }
def fnChcNewRow : OpenClaim := { program := "ytoacgjjpipdkjaa", sum := "351b717ab3d7e6e17ac52b137e5dfc319c02a32403b3b1c0a9d0e19689193497", func := "loop.example/harbinger/laws.FnChcNew", spec := "fnChcNew", unfollowed := true, recurses := true, apart := false }
def FnChcNewSaid : Prop := fnChcNewRow.holds Try.pinned (OpenSpec.ofChange fnChcNewSpec)

/-- ITS FALSE NEIGHBOUR: 'it returns false'. Refute it at one input. -/
def fnChcNewWrong : ChangeSpec := { name := "fnChcNew", fn := fun _ => fun
  | [d] => { results := [.lit (.bool false)], args := [d] }
  | _ => none }
def FnChcNewWrongFalsely : Prop := fnChcNewRow.holds Try.pinned (OpenSpec.ofChange fnChcNewWrong)

/-- 'laws.FnChcRead': WHATEVER THE INPUT: true; the input reads as it did. -/
def fnChcReadSpec : ChangeSpec := { name := "fnChcRead", fn := fun _ => fun
  | [d] => { results := [.lit (.bool true)], args := [d] }
  | _ => none }
def fnChcReadRow : OpenClaim := { program := "ytoacgjjpipdkjaa", sum := "351b717ab3d7e6e17ac52b137e5dfc319c02a32403b3b1c0a9d0e19689193497", func := "loop.example/harbinger/laws.FnChcRead", spec := "fnChcRead", unfollowed := true, recurses := true, apart := false }
def FnChcReadSaid : Prop := fnChcReadRow.holds Try.pinned (OpenSpec.ofChange fnChcReadSpec)

/-- ITS FALSE NEIGHBOUR: 'it returns false'. Refute it at one input. -/
def fnChcReadWrong : ChangeSpec := { name := "fnChcRead", fn := fun _ => fun
  | [d] => { results := [.lit (.bool false)], args := [d] }
  | _ => none }
def FnChcReadWrongFalsely : Prop := fnChcReadRow.holds Try.pinned (OpenSpec.ofChange fnChcReadWrong)

/-- 'laws.FnChcWrite': WHATEVER THE INPUT: true; the input reads as it did. -/
def fnChcWriteSpec : ChangeSpec := { name := "fnChcWrite", fn := fun _ => fun
  | [d] => { results := [.lit (.bool true)], args := [d] }
  | _ => none }
def fnChcWriteRow : OpenClaim := { program := "ytoacgjjpipdkjaa", sum := "351b717ab3d7e6e17ac52b137e5dfc319c02a32403b3b1c0a9d0e19689193497", func := "loop.example/harbinger/laws.FnChcWrite", spec := "fnChcWrite", unfollowed := true, recurses := true, apart := false }
def FnChcWriteSaid : Prop := fnChcWriteRow.holds Try.pinned (OpenSpec.ofChange fnChcWriteSpec)

/-- ITS FALSE NEIGHBOUR: 'it returns false'. Refute it at one input. -/
def fnChcWriteWrong : ChangeSpec := { name := "fnChcWrite", fn := fun _ => fun
  | [d] => { results := [.lit (.bool false)], args := [d] }
  | _ => none }
def FnChcWriteWrongFalsely : Prop := fnChcWriteRow.holds Try.pinned (OpenSpec.ofChange fnChcWriteWrong)

/-- 'laws.FnChcLay': WHATEVER THE INPUT: true; the input reads as it did. -/
def fnChcLaySpec : ChangeSpec := { name := "fnChcLay", fn := fun _ => fun
  | [d] => { results := [.lit (.bool true)], args := [d] }
  | _ => none }
def fnChcLayRow : OpenClaim := { program := "ytoacgjjpipdkjaa", sum := "351b717ab3d7e6e17ac52b137e5dfc319c02a32403b3b1c0a9d0e19689193497", func := "loop.example/harbinger/laws.FnChcLay", spec := "fnChcLay", unfollowed := true, recurses := true, apart := false }
def FnChcLaySaid : Prop := fnChcLayRow.holds Try.pinned (OpenSpec.ofChange fnChcLaySpec)

/-- ITS FALSE NEIGHBOUR: 'it returns false'. Refute it at one input. -/
def fnChcLayWrong : ChangeSpec := { name := "fnChcLay", fn := fun _ => fun
  | [d] => { results := [.lit (.bool false)], args := [d] }
  | _ => none }
def FnChcLayWrongFalsely : Prop := fnChcLayRow.holds Try.pinned (OpenSpec.ofChange fnChcLayWrong)

/-- 'laws.FnChcAll': WHATEVER THE INPUT: true; the input reads as it did. -/
def fnChcAllSpec : ChangeSpec := { name := "fnChcAll", fn := fun _ => fun
  | [d1, d2] => { results := [.lit (.bool true)], args := [d1, d2] }
  | _ => none }
def fnChcAllRow : OpenClaim := { program := "ytoacgjjpipdkjaa", sum := "351b717ab3d7e6e17ac52b137e5dfc319c02a32403b3b1c0a9d0e19689193497", func := "loop.example/harbinger/laws.FnChcAll", spec := "fnChcAll", unfollowed := true, recurses := true, apart := false }
def FnChcAllSaid : Prop := fnChcAllRow.holds Try.pinned (OpenSpec.ofChange fnChcAllSpec)

/-- ITS FALSE NEIGHBOUR: 'it returns false'. Refute it at one input. -/
def fnChcAllWrong : ChangeSpec := { name := "fnChcAll", fn := fun _ => fun
  | [d1, d2] => { results := [.lit (.bool false)], args := [d1, d2] }
  | _ => none }
def FnChcAllWrongFalsely : Prop := fnChcAllRow.holds Try.pinned (OpenSpec.ofChange fnChcAllWrong)

/-- 'laws.FnChcOrder': WHATEVER THE INPUT: true; the input reads as it did. -/
def fnChcOrderSpec : ChangeSpec := { name := "fnChcOrder", fn := fun _ => fun
  | [d1, d2] => { results := [.lit (.bool true)], args := [d1, d2] }
  | _ => none }
def fnChcOrderRow : OpenClaim := { program := "ytoacgjjpipdkjaa", sum := "351b717ab3d7e6e17ac52b137e5dfc319c02a32403b3b1c0a9d0e19689193497", func := "loop.example/harbinger/laws.FnChcOrder", spec := "fnChcOrder", unfollowed := true, recurses := true, apart := false }
def FnChcOrderSaid : Prop := fnChcOrderRow.holds Try.pinned (OpenSpec.ofChange fnChcOrderSpec)

/-- ITS FALSE NEIGHBOUR: 'it returns false'. Refute it at one input. -/
def fnChcOrderWrong : ChangeSpec := { name := "fnChcOrder", fn := fun _ => fun
  | [d1, d2] => { results := [.lit (.bool false)], args := [d1, d2] }
  | _ => none }
def FnChcOrderWrongFalsely : Prop := fnChcOrderRow.holds Try.pinned (OpenSpec.ofChange fnChcOrderWrong)

/- THE SECOND FORM. 'bulk': how many values and letters a reading holds, each counted each time it is reached (what is shared counts as often as it is met; a slice's spare places count too). A statement '..UptoSaid' is the law's where the arguments, and the package variables that the reading takes, are together of bulk at most 1048576: NARROWER than '..Said'. Prove '..Said' where nothing that the law and all that it calls make is longer than what came in: it says more and counts as full. Else prove '..UptoSaid'. A law counts once. -/
mutual
def uptoBulk {H : Type} : DataW H → Nat
  | .lit (.string bytes) => bytes.length + 1
  | .lit _ => 1
  | .nil => 1
  | .ptr d => uptoBulk d + 1
  | .slice elems spare => uptoBulkAll elems + uptoBulkAll spare + 1
  | .agg parts => uptoBulkAll parts + 1
  | .iface _ d => uptoBulk d + 1
  | .map entries => uptoBulkEntries entries + 1
  | .held _ => 1
def uptoBulkAll {H : Type} : List (DataW H) → Nat
  | [] => 0
  | d :: r => uptoBulk d + uptoBulkAll r
def uptoBulkEntries {H : Type} : List (Lit × DataW H) → Nat
  | [] => 0
  | x :: r => uptoBulkEntry x + uptoBulkEntries r
def uptoBulkEntry {H : Type} : Lit × DataW H → Nat
  | (.string bytes, d) => bytes.length + uptoBulk d + 1
  | (_, d) => uptoBulk d + 1
 end
def uptoSmall : (H : Type) → List (DataW H) → Bool := fun _ ds => decide (uptoBulkAll ds ≤ 1048576)
def OpenSpec.upto (s : _root_.Go.ChangeSpec) : _root_.Go.OpenSpec := { _root_.Go.OpenSpec.ofChange s with cond := some uptoSmall }

/-- 'laws.FnExactChcLook', WHERE WHAT IT READS IS OF BULK AT MOST 1048576: true; the input reads as it did. -/
def fnExactChcLookUptoRow : OpenClaim := { program := "ytoacgjjpipdkjaa", sum := "351b717ab3d7e6e17ac52b137e5dfc319c02a32403b3b1c0a9d0e19689193497", func := "loop.example/harbinger/laws.FnExactChcLook", spec := "fnExactChcLook", unfollowed := true, recurses := true, apart := false, narrowed := true }
def FnExactChcLookUptoSaid : Prop := fnExactChcLookUptoRow.holds Try.pinned (OpenSpec.upto fnExactChcLookSpec)

/-- 'laws.FnExactChcRead', WHERE WHAT IT READS IS OF BULK AT MOST 1048576: true; the input reads as it did. -/
def fnExactChcReadUptoRow : OpenClaim := { program := "ytoacgjjpipdkjaa", sum := "351b717ab3d7e6e17ac52b137e5dfc319c02a32403b3b1c0a9d0e19689193497", func := "loop.example/harbinger/laws.FnExactChcRead", spec := "fnExactChcRead", unfollowed := true, recurses := true, apart := false, narrowed := true }
def FnExactChcReadUptoSaid : Prop := fnExactChcReadUptoRow.holds Try.pinned (OpenSpec.upto fnExactChcReadSpec)

/-- 'laws.FnExactChcWrite', WHERE WHAT IT READS IS OF BULK AT MOST 1048576: true; the input reads as it did. -/
def fnExactChcWriteUptoRow : OpenClaim := { program := "ytoacgjjpipdkjaa", sum := "351b717ab3d7e6e17ac52b137e5dfc319c02a32403b3b1c0a9d0e19689193497", func := "loop.example/harbinger/laws.FnExactChcWrite", spec := "fnExactChcWrite", unfollowed := true, recurses := true, apart := false, narrowed := true }
def FnExactChcWriteUptoSaid : Prop := fnExactChcWriteUptoRow.holds Try.pinned (OpenSpec.upto fnExactChcWriteSpec)

/-- 'laws.FnExactChcLay', WHERE WHAT IT READS IS OF BULK AT MOST 1048576: true; the input reads as it did. -/
def fnExactChcLayUptoRow : OpenClaim := { program := "ytoacgjjpipdkjaa", sum := "351b717ab3d7e6e17ac52b137e5dfc319c02a32403b3b1c0a9d0e19689193497", func := "loop.example/harbinger/laws.FnExactChcLay", spec := "fnExactChcLay", unfollowed := true, recurses := true, apart := false, narrowed := true }
def FnExactChcLayUptoSaid : Prop := fnExactChcLayUptoRow.holds Try.pinned (OpenSpec.upto fnExactChcLaySpec)

/-- 'laws.FnExactChcAll', WHERE WHAT IT READS IS OF BULK AT MOST 1048576: true; the input reads as it did. -/
def fnExactChcAllUptoRow : OpenClaim := { program := "ytoacgjjpipdkjaa", sum := "351b717ab3d7e6e17ac52b137e5dfc319c02a32403b3b1c0a9d0e19689193497", func := "loop.example/harbinger/laws.FnExactChcAll", spec := "fnExactChcAll", unfollowed := true, recurses := true, apart := false, narrowed := true }
def FnExactChcAllUptoSaid : Prop := fnExactChcAllUptoRow.holds Try.pinned (OpenSpec.upto fnExactChcAllSpec)

/-- 'laws.FnExactInOk', WHERE WHAT IT READS IS OF BULK AT MOST 1048576: true; the input reads as it did. -/
def fnExactInOkUptoRow : OpenClaim := { program := "ytoacgjjpipdkjaa", sum := "351b717ab3d7e6e17ac52b137e5dfc319c02a32403b3b1c0a9d0e19689193497", func := "loop.example/harbinger/laws.FnExactInOk", spec := "fnExactInOk", unfollowed := true, recurses := true, apart := false, narrowed := true }
def FnExactInOkUptoSaid : Prop := fnExactInOkUptoRow.holds Try.pinned (OpenSpec.upto fnExactInOkSpec)

/-- 'laws.FnExactInAll', WHERE WHAT IT READS IS OF BULK AT MOST 1048576: true; the input reads as it did. -/
def fnExactInAllUptoRow : OpenClaim := { program := "ytoacgjjpipdkjaa", sum := "351b717ab3d7e6e17ac52b137e5dfc319c02a32403b3b1c0a9d0e19689193497", func := "loop.example/harbinger/laws.FnExactInAll", spec := "fnExactInAll", apart := false, narrowed := true }
def FnExactInAllUptoSaid : Prop := fnExactInAllUptoRow.holds Try.pinned (OpenSpec.upto fnExactInAllSpec)

/-- 'laws.FnInOk', WHERE WHAT IT READS IS OF BULK AT MOST 1048576: true; the input reads as it did. -/
def fnInOkUptoRow : OpenClaim := { program := "ytoacgjjpipdkjaa", sum := "351b717ab3d7e6e17ac52b137e5dfc319c02a32403b3b1c0a9d0e19689193497", func := "loop.example/harbinger/laws.FnInOk", spec := "fnInOk", unfollowed := true, recurses := true, apart := false, narrowed := true }
def FnInOkUptoSaid : Prop := fnInOkUptoRow.holds Try.pinned (OpenSpec.upto fnInOkSpec)

/-- 'laws.FnChcOk', WHERE WHAT IT READS IS OF BULK AT MOST 1048576: true; the input reads as it did. -/
def fnChcOkUptoRow : OpenClaim := { program := "ytoacgjjpipdkjaa", sum := "351b717ab3d7e6e17ac52b137e5dfc319c02a32403b3b1c0a9d0e19689193497", func := "loop.example/harbinger/laws.FnChcOk", spec := "fnChcOk", apart := false, narrowed := true }
def FnChcOkUptoSaid : Prop := fnChcOkUptoRow.holds Try.pinned (OpenSpec.upto fnChcOkSpec)

/-- 'laws.FnChcNew', WHERE WHAT IT READS IS OF BULK AT MOST 1048576: true; the input reads as it did. -/
def fnChcNewUptoRow : OpenClaim := { program := "ytoacgjjpipdkjaa", sum := "351b717ab3d7e6e17ac52b137e5dfc319c02a32403b3b1c0a9d0e19689193497", func := "loop.example/harbinger/laws.FnChcNew", spec := "fnChcNew", unfollowed := true, recurses := true, apart := false, narrowed := true }
def FnChcNewUptoSaid : Prop := fnChcNewUptoRow.holds Try.pinned (OpenSpec.upto fnChcNewSpec)

/-- 'laws.FnChcRead', WHERE WHAT IT READS IS OF BULK AT MOST 1048576: true; the input reads as it did. -/
def fnChcReadUptoRow : OpenClaim := { program := "ytoacgjjpipdkjaa", sum := "351b717ab3d7e6e17ac52b137e5dfc319c02a32403b3b1c0a9d0e19689193497", func := "loop.example/harbinger/laws.FnChcRead", spec := "fnChcRead", unfollowed := true, recurses := true, apart := false, narrowed := true }
def FnChcReadUptoSaid : Prop := fnChcReadUptoRow.holds Try.pinned (OpenSpec.upto fnChcReadSpec)

/-- 'laws.FnChcWrite', WHERE WHAT IT READS IS OF BULK AT MOST 1048576: true; the input reads as it did. -/
def fnChcWriteUptoRow : OpenClaim := { program := "ytoacgjjpipdkjaa", sum := "351b717ab3d7e6e17ac52b137e5dfc319c02a32403b3b1c0a9d0e19689193497", func := "loop.example/harbinger/laws.FnChcWrite", spec := "fnChcWrite", unfollowed := true, recurses := true, apart := false, narrowed := true }
def FnChcWriteUptoSaid : Prop := fnChcWriteUptoRow.holds Try.pinned (OpenSpec.upto fnChcWriteSpec)

/-- 'laws.FnChcLay', WHERE WHAT IT READS IS OF BULK AT MOST 1048576: true; the input reads as it did. -/
def fnChcLayUptoRow : OpenClaim := { program := "ytoacgjjpipdkjaa", sum := "351b717ab3d7e6e17ac52b137e5dfc319c02a32403b3b1c0a9d0e19689193497", func := "loop.example/harbinger/laws.FnChcLay", spec := "fnChcLay", unfollowed := true, recurses := true, apart := false, narrowed := true }
def FnChcLayUptoSaid : Prop := fnChcLayUptoRow.holds Try.pinned (OpenSpec.upto fnChcLaySpec)

/-- 'laws.FnChcAll', WHERE WHAT IT READS IS OF BULK AT MOST 1048576: true; the input reads as it did. -/
def fnChcAllUptoRow : OpenClaim := { program := "ytoacgjjpipdkjaa", sum := "351b717ab3d7e6e17ac52b137e5dfc319c02a32403b3b1c0a9d0e19689193497", func := "loop.example/harbinger/laws.FnChcAll", spec := "fnChcAll", unfollowed := true, recurses := true, apart := false, narrowed := true }
def FnChcAllUptoSaid : Prop := fnChcAllUptoRow.holds Try.pinned (OpenSpec.upto fnChcAllSpec)

/-- 'laws.FnChcOrder', WHERE WHAT IT READS IS OF BULK AT MOST 1048576: true; the input reads as it did. -/
def fnChcOrderUptoRow : OpenClaim := { program := "ytoacgjjpipdkjaa", sum := "351b717ab3d7e6e17ac52b137e5dfc319c02a32403b3b1c0a9d0e19689193497", func := "loop.example/harbinger/laws.FnChcOrder", spec := "fnChcOrder", unfollowed := true, recurses := true, apart := false, narrowed := true }
def FnChcOrderUptoSaid : Prop := fnChcOrderUptoRow.holds Try.pinned (OpenSpec.upto fnChcOrderSpec)

end Rows
end Go.Proofs.Ytoacgjjpipdkjaa
