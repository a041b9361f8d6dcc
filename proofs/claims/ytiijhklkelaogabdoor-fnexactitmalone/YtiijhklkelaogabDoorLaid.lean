/- From the row's condition on the tables to what the walks ask; an instruction that came in. -/
import Derived.ProofKit
import Derived.LaidMore
import Derived.OpenShut
import Derived.OpenVars
import Derived.Stop.Joined
import Derived.Test.YtiijhklkelaogabDoorRows
import Derived.Test.YtiijhklkelaogabDoorCod
namespace Go.Proofs.YtiijhklkelaogabDoor
open Go.ChangeShapes Go.WideShapes Go.ChangeAt Go.RowKit
set_option linter.unusedVariables false

theorem own : ownKnob Tryd.prog.godebug = none := by kernel_rfl
theorem laidOut : laidOutB Tryd.prog = true := by kernel_rfl
abbrev laidAll : List (String × DataW Unit) := [("loop.example/harbinger/impl.encodings", Rows.laid_loop_example_harbinger_impl_encodings), ("loop.example/harbinger/impl.layouts", Rows.laid_loop_example_harbinger_impl_layouts)]
abbrev laidNames : List String := ["loop.example/harbinger/impl.layouts", "loop.example/harbinger/impl.encodings"]
theorem gEnc : Tryd.prog.globalNamed "loop.example/harbinger/impl.encodings" = some 0 := by kernel_rfl
theorem gLay : Tryd.prog.globalNamed "loop.example/harbinger/impl.layouts" = some 1 := by kernel_rfl
theorem tEnc : (Tryd.prog.globals[0]?).map (·.type) = some 57 := by kernel_rfl
theorem tLay : (Tryd.prog.globals[1]?).map (·.type) = some 58 := by kernel_rfl
theorem cInt : Tryd.prog.cellsOf 3 = 1 := by kernel_rfl
theorem cFive : Tryd.prog.cellsOf 53 = 5 := by kernel_rfl
theorem cEnc : Tryd.prog.cellsOf 56 = 3 := by kernel_rfl

theorem door_met (os : Os) (args : Array Value) : laidMetH Tryd.prog laidAll ((World.doorLaid Tryd.prog 400 os).forCall (fun _ _ => 0) ⟨#[], args, []⟩).memory :=
  laidMetH_of_parts3 (fuel := 8) (laidMet_of_run' 8 (by kernel_rfl) (by kernel_rfl)) (by kernel_rfl) (by kernel_rfl)

section
variable {H : Type} {enc : TypeId × Value → H} {P : Program} {w : World} {base : Nat} {spare : Nat → Bool} {held : Bool} {fuel : Nat} {t : TypeId} {cs : List Value}
theorem arr_at {n : Nat} {e : TypeId} {ds : List (DataW H)} {p : List MemPlace} (ht : P.underlying t = some (.array n e)) (h : DataW.trod enc P w base spare held fuel t cs = some (.agg ds, p)) (i : Nat) (hi : i < n) :
    ∃ m y, DataW.trod enc P w base spare held m e ((cs.drop (i * P.cellsOf e)).take (P.cellsOf e)) = some y ∧ ds[i]? = some y.1 := by
  obtain ⟨xs, m, _, hx, _, hl, hf⟩ := DataW.trod_array ht h
  simp only [Prod.mk.injEq, DataW.agg.injEq] at hx
  have hi' : i < xs.length := by omega
  have h1 := hf i hi
  rw [List.getElem?_eq_getElem hi'] at h1
  refine ⟨m, xs[i], h1, ?_⟩
  rw [hx.1, List.getElem?_map, List.getElem?_eq_getElem hi']
  rfl
theorem str_at {fs : Array Field} {f : Field} {ds : List (DataW H)} {p : List MemPlace} (ht : P.underlying t = some (.struct fs)) (h : DataW.trod enc P w base spare held fuel t cs = some (.agg ds, p)) (i : Nat) (hi : fs[i]? = some f) (e : TypeId) (o : Nat) (he : f.type = e) (ho : f.offset = o) :
    ∃ m y, DataW.trod enc P w base spare held m e ((cs.drop o).take (P.cellsOf e)) = some y ∧ ds[i]? = some y.1 := by
  subst he ho
  obtain ⟨xs, m, _, hx, _, hl, hf⟩ := DataW.trod_struct ht h
  simp only [Prod.mk.injEq, DataW.agg.injEq] at hx
  have hi' : i < xs.length := by
    have : i < fs.size := by
      by_cases hh : i < fs.size
      · exact hh
      · rw [Array.getElem?_eq_none (by omega)] at hi; cases hi
    omega
  have h1 := hf i f hi
  rw [List.getElem?_eq_getElem hi'] at h1
  refine ⟨m, xs[i], h1, ?_⟩
  rw [hx.1, List.getElem?_map, List.getElem?_eq_getElem hi']
  rfl
theorem int_fld {fs : Array Field} {f : Field} {x : DataW H × List MemPlace} {k : IntKind} {c : Value} (ht : P.underlying t = some (.struct fs)) (h : DataW.trod enc P w base spare held fuel t cs = some x) (i : Nat) (hi : fs[i]? = some f) (e : TypeId) (o : Nat) (he : f.type = e) (ho : f.offset = o)
    (hk : P.underlying e = some (.int k)) (h1 : P.cellsOf e = 1) (hc : cs[o]? = some c) : ∃ n : Int, c = .int k n := by
  obtain ⟨xs, m, _, rfl, _, hl, hf⟩ := DataW.trod_struct ht h
  obtain ⟨m', y, k1, _⟩ := str_at ht h i hi e o he ho
  rw [h1] at k1
  obtain ⟨n, e1, _, _⟩ := DataW.trod_int hk k1
  have : ((cs.drop o).take 1)[0]? = some (.int k n) := by rw [e1]; rfl
  have h2 : cs[o]? = some (.int k n) := by simpa using this
  exact ⟨n, Option.some.inj (hc.symm.trans h2)⟩
theorem int_at {k : IntKind} {z : Int} {y : DataW H × List MemPlace} {a : Nat} (ht : P.underlying t = some (.int k)) (h : DataW.trod enc P w base spare held fuel t ((cs.drop a).take 1) = some y) (hy : y.1 = .lit (.int k z)) : cs[a]? = some (.int k z) := by
  obtain ⟨n, h1, rfl, _⟩ := DataW.trod_int ht h
  have hz : n = z := by simpa using hy
  subst hz
  have : ((cs.drop a).take 1)[0]? = some (.int k n) := by rw [h1]; rfl
  simpa using this
end

theorem tabs_of_met {W : World} {r : List (String × DataW Unit)} (h : laidMet Tryd.prog (("loop.example/harbinger/impl.encodings", Rows.laid_loop_example_harbinger_impl_encodings) :: ("loop.example/harbinger/impl.layouts", Rows.laid_loop_example_harbinger_impl_layouts) :: r) W) : Tabs W := by
  obtain ⟨ps, ⟨g0, t0, cs0, f0, p0, q0, hg0, ht0, hv0, hd0, ⟨g1, t1, cs1, f1, p1, q1, hg1, ht1, hv1, hd1, _, _⟩, _⟩, _, _⟩ := h
  obtain rfl := Option.some.inj (gEnc.symm.trans hg0)
  obtain rfl := Option.some.inj (gLay.symm.trans hg1)
  obtain rfl := Option.some.inj (tEnc.symm.trans ht0)
  obtain rfl := Option.some.inj (tLay.symm.trans ht1)
  refine ⟨fun i hi => ?_, fun i hi => ?_⟩
  · rw [World.var?_cell hg0 hv0 i]
    have hds : (Rows.laid_loop_example_harbinger_impl_encodings : DataW Unit) = .agg ((List.range 7).map fun r => .agg [.lit (.int .i64 (encL.getD (r * 3) 0)), .lit (.int .i64 (encL.getD (r * 3 + 1) 0)), .lit (.int .i64 (encL.getD (r * 3 + 2) 0))]) := rfl
    rw [hds] at hd0
    obtain ⟨m, y, h1, h2⟩ := arr_at Tryd.underlying57 hd0 (i / 3) (by omega)
    obtain ⟨yd, yp⟩ := y
    have h3 : yd = .agg [.lit (.int .i64 (encL.getD (i / 3 * 3) 0)), .lit (.int .i64 (encL.getD (i / 3 * 3 + 1) 0)), .lit (.int .i64 (encL.getD (i / 3 * 3 + 2) 0))] := by
      rw [List.getElem?_map, List.getElem?_range (by omega)] at h2
      simpa using h2.symm
    subst h3
    rw [cEnc] at h1
    have hr : i % 3 = 0 ∨ i % 3 = 1 ∨ i % 3 = 2 := by omega
    rcases hr with hr | hr | hr
    · obtain ⟨m', z, k1, k2⟩ := str_at Tryd.underlying56 h1 0 rfl 3 0 rfl rfl
      rw [cInt] at k1
      have k3 := int_at Tryd.underlying3 k1 (by simpa using k2.symm)
      have e : i = i / 3 * 3 := by omega
      rw [← Array.getElem?_toList]
      rw [← e] at k3
      simpa [List.getElem?_take, List.getElem?_drop, ← e] using k3
    · obtain ⟨m', z, k1, k2⟩ := str_at Tryd.underlying56 h1 1 rfl 3 1 rfl rfl
      rw [cInt] at k1
      have k3 := int_at Tryd.underlying3 k1 (by simpa using k2.symm)
      have e : i = i / 3 * 3 + 1 := by omega
      rw [← Array.getElem?_toList]
      rw [← e] at k3
      simpa [List.getElem?_take, List.getElem?_drop, ← e] using k3
    · obtain ⟨m', z, k1, k2⟩ := str_at Tryd.underlying56 h1 2 rfl 3 2 rfl rfl
      rw [cInt] at k1
      have k3 := int_at Tryd.underlying3 k1 (by simpa using k2.symm)
      have e : i = i / 3 * 3 + 2 := by omega
      rw [← Array.getElem?_toList]
      rw [← e] at k3
      simpa [List.getElem?_take, List.getElem?_drop, ← e] using k3
  · rw [World.var?_cell hg1 hv1 i]
    have hds : (Rows.laid_loop_example_harbinger_impl_layouts : DataW Unit) = .agg ((List.range 16).map fun r => .agg ((List.range 5).map fun c => .lit (.int .i64 (layL.getD (r * 5 + c) 0)))) := rfl
    rw [hds] at hd1
    obtain ⟨m, y, h1, h2⟩ := arr_at Tryd.underlying58 hd1 (i / 5) (by omega)
    obtain ⟨yd, yp⟩ := y
    have h3 : yd = .agg ((List.range 5).map fun c => .lit (.int .i64 (layL.getD (i / 5 * 5 + c) 0))) := by
      rw [List.getElem?_map, List.getElem?_range (by omega)] at h2
      exact (Option.some.inj h2).symm
    subst h3
    rw [cFive] at h1
    obtain ⟨m', z, k1, k2⟩ := arr_at Tryd.underlying53 h1 (i % 5) (by omega)
    rw [List.getElem?_map, List.getElem?_range (by omega)] at k2
    rw [cInt, Nat.mul_one] at k1
    have k3 := int_at Tryd.underlying3 k1 (Option.some.inj k2).symm
    have e : i / 5 * 5 + i % 5 = i := by omega
    rw [← Array.getElem?_toList]
    rw [e] at k3
    rw [List.getElem?_take_of_lt (by omega), List.getElem?_drop, e] at k3
    exact k3

theorem tabs_of_laid {W : World} (h : laidMetH Tryd.prog laidAll W) : Tabs W := by
  rw [MakeChecks.laidMetH_plain _ _ _ (by kernel_rfl)] at h
  exact tabs_of_met h
theorem array6 {α : Type} {cs : Array α} (h : cs.size = 6) : ∃ c0 c1 c2 c3 c4 c5, cs = #[c0, c1, c2, c3, c4, c5] := by
  obtain ⟨l⟩ := cs
  match l, h with
  | [c0, c1, c2, c3, c4, c5], _ => exact ⟨c0, c1, c2, c3, c4, c5, rfl⟩
set_option maxRecDepth 100000 in
/-- An instruction that came in: six numbers. -/
theorem open_inst {H : Type} {enc : TypeId × Value → H} {w : World} {r : Reach} {b0 base : Nat} {spare : Nat → Bool} {held : Bool} {v : Value} {d : DataW H} {p : List MemPlace} {t : TypeId}
    (hu : Tryd.prog.underlying t = Tryd.prog.underlying 25) (hc : Tryd.prog.cellsOf t = 6) (hv : Value.okWide Tryd.prog w r b0 t v) (h : DataW.Trod enc Tryd.prog w base spare held t v d p) :
    ∃ k d a b f n : Int, v = .agg #[.int .i64 k, .int .i64 d, .int .i64 a, .int .i64 b, .int .i64 f, .int .i64 n] := by
  have hs := hu.trans Tryd.underlying25
  obtain ⟨cs, rfl, hsz⟩ := okWide_struct hs hv
  obtain ⟨c0, c1, c2, c3, c4, c5, rfl⟩ := array6 (hsz.trans hc)
  obtain ⟨fuel, hf⟩ := h
  obtain ⟨n0, rfl⟩ := int_fld hs hf 0 rfl 3 0 rfl rfl Tryd.underlying3 cInt (c := c0) rfl
  obtain ⟨n1, rfl⟩ := int_fld hs hf 1 rfl 3 1 rfl rfl Tryd.underlying3 cInt (c := c1) rfl
  obtain ⟨n2, rfl⟩ := int_fld hs hf 2 rfl 3 2 rfl rfl Tryd.underlying3 cInt (c := c2) rfl
  obtain ⟨n3, rfl⟩ := int_fld hs hf 3 rfl 3 3 rfl rfl Tryd.underlying3 cInt (c := c3) rfl
  obtain ⟨n4, rfl⟩ := int_fld hs hf 4 rfl 3 4 rfl rfl Tryd.underlying3 cInt (c := c4) rfl
  obtain ⟨n5, rfl⟩ := int_fld hs hf 5 rfl 3 5 rfl rfl Tryd.underlying3 cInt (c := c5) rfl
  exact ⟨n0, n1, n2, n3, n4, n5, rfl⟩

end Go.Proofs.YtiijhklkelaogabDoor
