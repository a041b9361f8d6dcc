/- A machine that came in: a number, and three rows of numbers. -/
import Derived.ProofKit
import Derived.OpenShut
import Derived.ChangeOld
import Derived.Test.YtbjapncfgancoaaDoorPh
namespace Go.Proofs.YtbjapncfgancoaaDoor
open Go.ChangeShapes Go.WideShapes Go.ChangeAt Go.RowKit
set_option linter.unusedVariables false
set_option linter.unusedSimpArgs false
theorem array4 {α : Type} {cs : Array α} (h : cs.size = 4) : ∃ c0 c1 c2 c3, cs = #[c0, c1, c2, c3] := by
  obtain ⟨l⟩ := cs
  match l, h with
  | [c0, c1, c2, c3], _ => exact ⟨c0, c1, c2, c3, rfl⟩
/-- Rows that a machine may have. -/
structure Big (s : St) : Prop where
  R : s.R.length ≤ 9223372036854775807
  C : s.C.length ≤ 9223372036854775807
  M : s.M.length ≤ 9223372036854775807
set_option maxRecDepth 100000 in
theorem row_open {H : Type} {enc : TypeId × Value → H} {w : World} {base : Nat} {spare : Nat → Bool} {held : Bool} {fuel : Nat} {c : Value} {x : DataW H × List MemPlace} (h : DataW.trod enc Tryd.prog w base spare held fuel 22 [c] = some x) :
    ∃ (ao : Option Addr) (cap : Nat) (xs : List Int), c = .slice ao xs.length cap ∧ Src w xs.length (ivl xs) ao ∧ xs.length ≤ 9223372036854775807 := by
  rcases open_ints Tryd.underlying22 Tryd.underlying3 (by kernel_rfl) h with ⟨hcs, _⟩ | ⟨a, l, cp, zs, hcs, _, hl, hm, hz, _, hcell, hwz⟩
  · injection hcs with hcs
    subst hcs
    exact ⟨none, 0, [], rfl, fun h => by simp at h, by simp⟩
  · injection hcs with hcs
    subst hcs
    have hzl : l ≤ zs.length := by rw [hz]; split <;> omega
    have hlen : (zs.take l).length = l := by simp; omega
    have hmx : maxLen = 9223372036854775807 := rfl
    refine ⟨some a, cp, zs.take l, by rw [hlen], ?_, by omega⟩
    refine src_of_row fun i hi => ?_
    rw [hlen] at hi
    rw [hcell i (by omega)]
    simp only [ivl, List.getD_eq_getElem?_getD, List.getElem?_take_of_lt hi]
set_option maxRecDepth 100000 in
theorem open_pln {H : Type} {enc : TypeId × Value → H} {w : World} {r : Reach} {b0 base : Nat} {spare : Nat → Bool} {held : Bool} {v : Value} {d : DataW H} {p : List MemPlace}
    (hv : Value.okWide Tryd.prog w r b0 24 v) (h : DataW.Trod enc Tryd.prog w base spare held 24 v d p) :
    ∃ (s : St) (aR aC aM : Option Addr) (cR cC cM : Nat), v = .agg #[.int .i64 (s).pc, .slice aR (s).R.length cR, .slice aC (s).C.length cC, .slice aM (s).M.length cM] ∧ SrcS w s aR aC aM ∧ Big s := by
  have cI : Tryd.prog.cellsOf 3 = 1 := by kernel_rfl
  have cS : Tryd.prog.cellsOf 22 = 1 := by kernel_rfl
  have hc : Tryd.prog.cellsOf 24 = 4 := by kernel_rfl
  obtain ⟨cs, rfl, hsz⟩ := okWide_struct Tryd.underlying24 hv
  obtain ⟨c0, c1, c2, c3, rfl⟩ := array4 (hsz.trans hc)
  obtain ⟨fuel, hf⟩ := h
  obtain ⟨xs, n, _, _, hl, hlen, hfl⟩ := DataW.trod_struct Tryd.underlying24 hf
  match xs, hlen with
  | [y0, y1, y2, y3], _ =>
    have g0 := hfl 0 _ rfl
    have g1 := hfl 1 _ rfl
    have g2 := hfl 2 _ rfl
    have g3 := hfl 3 _ rfl
    simp only [cI, cS, Value.cells, List.drop_zero, List.take_succ_cons, List.take_zero, List.drop_succ_cons, List.getElem?_cons_zero, List.getElem?_cons_succ] at g0 g1 g2 g3
    obtain ⟨z, e0, _, _⟩ := DataW.trod_int Tryd.underlying3 g0
    injection e0 with e0
    subst e0
    obtain ⟨aR, cR, R, rfl, sR, lR⟩ := row_open g1
    obtain ⟨aC, cC, C, rfl, sC, lC⟩ := row_open g2
    obtain ⟨aM, cM, M, rfl, sM, lM⟩ := row_open g3
    exact ⟨⟨z, R, C, M⟩, aR, aC, aM, cR, cC, cM, rfl, ⟨sR, sC, sM⟩, ⟨lR, lC, lM⟩⟩

end Go.Proofs.YtbjapncfgancoaaDoor
