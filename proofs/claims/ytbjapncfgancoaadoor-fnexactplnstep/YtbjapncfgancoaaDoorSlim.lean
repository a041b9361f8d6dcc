/- A region that draws, its frame left as it is: a slot is read by a fact. -/
import Derived.Test.YtbjapncfgancoaaDoorRegion4
namespace Go.Proofs.YtbjapncfgancoaaDoor
open Go.RowKit
set_option linter.unusedVariables false
set_option linter.unusedSimpArgs false
def noDst (ops : Array Oper) (k : Nat) : Bool := ops.toList.all fun o => decide (o.dst ≠ some k)
theorem no_dst {ops : Array Oper} {k : Nat} (h : noDst ops k = true) : ∀ (i : Nat) (o : Oper), ops[i]? = some o → o.dst ≠ some k := fun i o ho => by
  have hm : o ∈ ops.toList := by
    rw [← Array.getElem?_toList] at ho
    exact List.mem_of_getElem? ho
  have := List.all_eq_true.1 h o hm
  exact of_decide_eq_true this
theorem out_val {ops : Array Oper} {a0 a : Act} {k : Nat} {v : Value} {l : List Value} (hL : Like ops a0 a) (h : noDst ops k = true) (ha : a0.tmps = l.toArray) (hv : l[k]? = some v) : a.tmps.getD k undef = v := by
  rw [hL.2.2 k (no_dst h), ha]
  simp [hv]

end Go.Proofs.YtbjapncfgancoaaDoor
