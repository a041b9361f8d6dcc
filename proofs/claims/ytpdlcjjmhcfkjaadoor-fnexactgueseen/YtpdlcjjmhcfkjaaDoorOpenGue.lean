/- A guesser that came in: a row of slots, and a row of numbers. -/
import Derived.Deep.SlicePairs
import Derived.Test.YtpdlcjjmhcfkjaaDoorGh3
import Derived.Test.YtpdlcjjmhcfkjaaDoorOpenPln
namespace Go.Proofs.YtpdlcjjmhcfkjaaDoor
open Go.ChangeShapes Go.WideShapes Go.ChangeAt Go.RowKit
set_option linter.unusedVariables false
theorem array2 {α : Type} {cs : Array α} (h : cs.size = 2) : ∃ c0 c1, cs = #[c0, c1] := by
  obtain ⟨l⟩ := cs
  match l, h with
  | [c0, c1], _ => exact ⟨c0, c1, rfl⟩
instance : Inhabited Sl := ⟨sl0⟩
set_option maxRecDepth 100000 in
theorem slots_open {H : Type} {enc : TypeId × Value → H} {w : World} {base : Nat} {spare : Nat → Bool} {held : Bool} {fuel : Nat} {c : Value} {x : DataW H × List MemPlace} (h : DataW.trod enc Tryd.prog w base spare held fuel 22 [c] = some x) :
    ∃ (ao : Option Addr) (cap : Nat) (S : List Sl), c = .slice ao S.length cap ∧ Src4 w S ao ∧ S.length ≤ 9223372036854775807 := by
  have ce : Tryd.prog.cellsOf 94 = 4 := by kernel_rfl
  have cI : Tryd.prog.cellsOf 3 = 1 := by kernel_rfl
  have cB : Tryd.prog.cellsOf 4 = 1 := by kernel_rfl
  rcases Go.Deep.open_slice Tryd.underlying22 h with ⟨hcs, _⟩ | ⟨a, len, cap, m, n, D, Pl, hcs, hb, hl, hm, hmm, _, hx⟩
  · injection hcs with hcs
    subst hcs
    exact ⟨none, 0, [], rfl, fun h => by simp at h, by simp⟩
  · injection hcs with hcs
    subst hcs
    have hlm : len ≤ m := by rw [hmm]; split <;> omega
    have each : ∀ i, i < len → ∃ y : Sl, w.cell? (a.add (i * 4)) = some (.bool y.u) ∧ w.cell? (a.add (i * 4 + 1)) = some (.int .i64 y.p) ∧ w.cell? (a.add (i * 4 + 2)) = some (.int .i64 y.t) ∧ w.cell? (a.add (i * 4 + 3)) = some (.int .i64 y.s) := by
      intro i hi
      obtain ⟨cs', h1, h2⟩ := hx i (by omega)
      rw [ce] at h1
      obtain ⟨_, hlen, hcell⟩ := World.cells?_some h1
      obtain ⟨xs, k, hk, hxy, _, hxl, hf⟩ := DataW.trod_struct Tryd.underlying94 h2
      match xs, hxl, cs', hlen with
      | [y0, y1, y2, y3], _, [v0, v1, v2, v3], _ =>
        have g0 := hf 0 _ rfl
        have g1 := hf 1 _ rfl
        have g2 := hf 2 _ rfl
        have g3 := hf 3 _ rfl
        simp only [cI, cB, List.drop_zero, List.take_succ_cons, List.take_zero, List.drop_succ_cons, List.getElem?_cons_zero, List.getElem?_cons_succ] at g0 g1 g2 g3
        obtain ⟨z0, e0, _⟩ := DataW.trod_bool Tryd.underlying4 g0
        obtain ⟨z1, e1, _, _⟩ := DataW.trod_int Tryd.underlying3 g1
        obtain ⟨z2, e2, _, _⟩ := DataW.trod_int Tryd.underlying3 g2
        obtain ⟨z3, e3, _, _⟩ := DataW.trod_int Tryd.underlying3 g3
        injection e0 with e0
        injection e1 with e1
        injection e2 with e2
        injection e3 with e3
        subst e0 e1 e2 e3
        have q0 := hcell 0 (by omega)
        have q1 := hcell 1 (by omega)
        have q2 := hcell 2 (by omega)
        have q3 := hcell 3 (by omega)
        rw [Go.Deep.add_add] at q0 q1 q2 q3
        exact ⟨⟨z0, z1, z2, z3⟩, by simpa using q0, by simpa using q1, by simpa using q2, by simpa using q3⟩
    obtain ⟨q, hq⟩ := Go.Deep.choose_lt each
    have hmx : maxLen = 9223372036854775807 := rfl
    refine ⟨some a, cap, (List.range len).map q, by simp, fun h0 => ?_, by simp; omega⟩
    have hl0 : 0 < len := by simpa using h0
    obtain ⟨b, off, spot⟩ := a
    have hc0 := (hq 0 hl0).1
    have hspot : spot = none := by simpa [Addr.add] using World.cell?_spot hc0
    subst hspot
    refine ⟨b, off, rfl, lt_of_cell (a := ⟨b, off, none⟩) (by simpa [Addr.add] using hc0), fun j v hv => ?_⟩
    have hj : j < 4 * len := by
      have := (List.getElem?_eq_some_iff.1 hv).1
      rw [cls_len] at this
      simpa using this
    obtain ⟨i, r, rfl, hr⟩ : ∃ i r, j = 4 * i + r ∧ r < 4 := ⟨j / 4, j % 4, by omega, by omega⟩
    have hi : i < len := by omega
    have hc := cls_at ((List.range len).map q) i (by simpa using hi)
    rw [show ((List.range len).map q).getD i sl0 = q i by simp [List.getD_eq_getElem?_getD, hi]] at hc
    have ha : ∀ j, (⟨b, off, none⟩ : Addr).add j = ⟨b, off + j, none⟩ := fun j => Addr.add_mid b off j
    have hqi := hq i hi
    rw [ha, ha, ha, ha] at hqi
    rw [show off + (4 * i + r) = off + (i * 4 + r) by omega]
    rcases r with _ | _ | _ | _ | r
    · rw [Nat.add_zero, hc.1] at hv; cases hv; exact hqi.1
    · rw [hc.2.1] at hv; cases hv; exact hqi.2.1
    · rw [hc.2.2.1] at hv; cases hv; exact hqi.2.2.1
    · rw [hc.2.2.2] at hv; cases hv; exact hqi.2.2.2
    · omega
structure Big5 (x : Gu) : Prop where
  S : x.S.length ≤ 9223372036854775807
  C : x.C.length ≤ 9223372036854775807
set_option maxRecDepth 100000 in
theorem open_gue {H : Type} {enc : TypeId × Value → H} {w : World} {r : Reach} {b0 base : Nat} {spare : Nat → Bool} {held : Bool} {v : Value} {d : DataW H} {p : List MemPlace}
    (hv : Value.okWide Tryd.prog w r b0 25 v) (h : DataW.Trod enc Tryd.prog w base spare held 25 v d p) :
    ∃ (x : Gu) (aS aC : Option Addr) (cS cC : Nat), v = .agg #[.slice aS x.S.length cS, .slice aC x.C.length cC] ∧ Src4 w x.S aS ∧ Src w x.C.length (ivl x.C) aC ∧ Big5 x := by
  have cT : Tryd.prog.cellsOf 22 = 1 := by kernel_rfl
  have cS : Tryd.prog.cellsOf 23 = 1 := by kernel_rfl
  have hc : Tryd.prog.cellsOf 25 = 2 := by kernel_rfl
  obtain ⟨cs, rfl, hsz⟩ := okWide_struct Tryd.underlying25 hv
  obtain ⟨c0, c1, rfl⟩ := array2 (hsz.trans hc)
  obtain ⟨fuel, hf⟩ := h
  obtain ⟨xs, n, _, _, hl, hlen, hfl⟩ := DataW.trod_struct Tryd.underlying25 hf
  match xs, hlen with
  | [y0, y1], _ =>
    have g0 := hfl 0 _ rfl
    have g1 := hfl 1 _ rfl
    simp only [cT, cS, Value.cells, List.drop_zero, List.take_succ_cons, List.take_zero, List.drop_succ_cons, List.getElem?_cons_zero, List.getElem?_cons_succ] at g0 g1
    obtain ⟨aS, kS, S, rfl, sS, lS⟩ := slots_open g0
    obtain ⟨aC, kC, C, rfl, sC, lC⟩ := row_open g1
    exact ⟨⟨S, C⟩, aS, aC, kS, kC, rfl, sS, sC, ⟨lS, lC⟩⟩

end Go.Proofs.YtpdlcjjmhcfkjaaDoor
