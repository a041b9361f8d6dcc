/- From the row's condition on the tables (with the table of names) to what the walks ask. -/
import Derived.Test.YtecdmafhjfnloaaGreatDoorLaid
import Derived.Test.YtecdmafhjfnloaaGreatDoorTx1
import Derived.Lib.LaidTab
import Derived.Stop.LaidErr
namespace Go.Proofs.YtecdmafhjfnloaaGreatDoor
open Go.ChangeShapes Go.WideShapes Go.ChangeAt Go.RowKit
set_option linter.unusedVariables false

abbrev laidAll2 : List (String × DataW Unit) := [("math/bits.deBruijn32tab", Rows.laid_math_bits_deBruijn32tab), ("math/bits.deBruijn64tab", Rows.laid_math_bits_deBruijn64tab), ("internal/strconv.uint64pow10", Rows.laid_internal_strconv_uint64pow10), ("loop.example/harbinger/impl.encodings", Rows.laid_loop_example_harbinger_impl_encodings), ("loop.example/harbinger/impl.layouts", Rows.laid_loop_example_harbinger_impl_layouts), ("loop.example/harbinger/impl.mnemonics", Rows.laid_loop_example_harbinger_impl_mnemonics)]
abbrev laidNames2 : List String := ["loop.example/harbinger/impl.layouts", "loop.example/harbinger/impl.encodings", "loop.example/harbinger/impl.mnemonics"]
set_option maxRecDepth 100000 in
theorem door_met2 (os : Os) (args : Array Value) : laidMetH Tryz.prog laidAll2 ((World.doorLaid Tryz.prog 400 os).forCall (fun _ _ => 0) ⟨#[], args, []⟩).memory :=
  laidMetH_of_parts3 (fuel := 8) (laidMet_of_run' 8 (by kernel_rfl) (by kernel_rfl)) (by kernel_rfl) (by kernel_rfl)
theorem gMn : Tryz.prog.globalNamed "loop.example/harbinger/impl.mnemonics" = some 5 := by kernel_rfl
theorem tMn : (Tryz.prog.globals[5]?).map (·.type) = some 117 := by kernel_rfl
theorem cMn : Tryz.prog.cellsOf 108 = 3 := by kernel_rfl
theorem cStr : Tryz.prog.cellsOf 9 = 1 := by kernel_rfl
theorem gPw : Tryz.prog.globalNamed "internal/strconv.uint64pow10" = some 10 := by kernel_rfl
theorem tPw : (Tryz.prog.globals[10]?).map (·.type) = some 133 := by kernel_rfl
theorem str_lit_at {H : Type} {enc : TypeId × Value → H} {P : Program} {w : World} {base : Nat} {spare : Nat → Bool} {held : Bool} {fuel : Nat} {t : TypeId} {cs : List Value} {z : List UInt8} {y : DataW H × List MemPlace} {a : Nat} (ht : P.underlying t = some .string) (h : DataW.trod enc P w base spare held fuel t ((cs.drop a).take 1) = some y) (hy : y.1 = .lit (.string z)) : cs[a]? = some (.string (bs z)) := by
  obtain ⟨s, h1, rfl, _⟩ := DataW.trod_string ht h
  have hz : s.data.toList = z := by simpa using hy
  subst hz
  have : ((cs.drop a).take 1)[0]? = some (.string s) := by rw [h1]; rfl
  simpa using this
theorem mnL_at (i : Nat) (hi : i < 69) : mnL.getD i undef = if i % 3 = 0 then .string (bs (nmL.getD (i / 3) [])) else if i % 3 = 1 then .int .i64 (mk (i / 3)) else .int .i64 (mf (i / 3)) := by
  have h : i = 0 ∨ i = 1 ∨ i = 2 ∨ i = 3 ∨ i = 4 ∨ i = 5 ∨ i = 6 ∨ i = 7 ∨ i = 8 ∨ i = 9 ∨ i = 10 ∨ i = 11 ∨ i = 12 ∨ i = 13 ∨ i = 14 ∨ i = 15 ∨ i = 16 ∨ i = 17 ∨ i = 18 ∨ i = 19 ∨ i = 20 ∨ i = 21 ∨ i = 22 ∨ i = 23 ∨ i = 24 ∨ i = 25 ∨ i = 26 ∨ i = 27 ∨ i = 28 ∨ i = 29 ∨ i = 30 ∨ i = 31 ∨ i = 32 ∨ i = 33 ∨ i = 34 ∨ i = 35 ∨ i = 36 ∨ i = 37 ∨ i = 38 ∨ i = 39 ∨ i = 40 ∨ i = 41 ∨ i = 42 ∨ i = 43 ∨ i = 44 ∨ i = 45 ∨ i = 46 ∨ i = 47 ∨ i = 48 ∨ i = 49 ∨ i = 50 ∨ i = 51 ∨ i = 52 ∨ i = 53 ∨ i = 54 ∨ i = 55 ∨ i = 56 ∨ i = 57 ∨ i = 58 ∨ i = 59 ∨ i = 60 ∨ i = 61 ∨ i = 62 ∨ i = 63 ∨ i = 64 ∨ i = 65 ∨ i = 66 ∨ i = 67 ∨ i = 68 := by omega
  rcases h with rfl | rfl | rfl | rfl | rfl | rfl | rfl | rfl | rfl | rfl | rfl | rfl | rfl | rfl | rfl | rfl | rfl | rfl | rfl | rfl | rfl | rfl | rfl | rfl | rfl | rfl | rfl | rfl | rfl | rfl | rfl | rfl | rfl | rfl | rfl | rfl | rfl | rfl | rfl | rfl | rfl | rfl | rfl | rfl | rfl | rfl | rfl | rfl | rfl | rfl | rfl | rfl | rfl | rfl | rfl | rfl | rfl | rfl | rfl | rfl | rfl | rfl | rfl | rfl | rfl | rfl | rfl | rfl | rfl <;> rfl
theorem mn_of_met {W : World} {r : List (String × DataW Unit)} (h : laidMet Tryz.prog (("loop.example/harbinger/impl.mnemonics", Rows.laid_loop_example_harbinger_impl_mnemonics) :: r) W) : ∀ i, i < 69 → W.cell? ⟨5, i, none⟩ = some (mnL.getD i undef) := by
  obtain ⟨ps, ⟨g0, t0, cs0, f0, p0, q0, hg0, ht0, hv0, hd0, _, _⟩, _, _⟩ := h
  obtain rfl := Option.some.inj (gMn.symm.trans hg0)
  obtain rfl := Option.some.inj (tMn.symm.trans ht0)
  intro i hi
  rw [World.var?_cell hg0 hv0 i, mnL_at i hi]
  have hds : (Rows.laid_loop_example_harbinger_impl_mnemonics : DataW Unit) = .agg ((List.range 23).map fun r => .agg [.lit (.string (nmL.getD r [])), .lit (.int .i64 (mk r)), .lit (.int .i64 (mf r))]) := rfl
  rw [hds] at hd0
  obtain ⟨m, y, h1, h2⟩ := arr_at Tryz.underlying117 hd0 (i / 3) (by omega)
  obtain ⟨yd, yp⟩ := y
  have h3 : yd = .agg [.lit (.string (nmL.getD (i / 3) [])), .lit (.int .i64 (mk (i / 3))), .lit (.int .i64 (mf (i / 3)))] := by
    rw [List.getElem?_map, List.getElem?_range (by omega)] at h2
    exact (Option.some.inj h2).symm
  subst h3
  rw [cMn] at h1
  have hr : i % 3 = 0 ∨ i % 3 = 1 ∨ i % 3 = 2 := by omega
  rcases hr with hr | hr | hr
  · obtain ⟨m', z, k1, k2⟩ := str_at Tryz.underlying108 h1 0 rfl 9 0 rfl rfl
    rw [cStr] at k1
    have k3 := str_lit_at Tryz.underlying9 k1 (Option.some.inj k2).symm
    rw [← Array.getElem?_toList, hr, if_pos rfl]
    rw [List.getElem?_take_of_lt (by omega), List.getElem?_drop, show i / 3 * 3 + 0 = i by omega] at k3
    exact k3
  · obtain ⟨m', z, k1, k2⟩ := str_at Tryz.underlying108 h1 1 rfl 3 1 rfl rfl
    rw [cInt] at k1
    have k3 := int_at Tryz.underlying3 k1 (Option.some.inj k2).symm
    rw [← Array.getElem?_toList, hr, if_neg (by decide), if_pos rfl]
    rw [List.getElem?_take_of_lt (by omega), List.getElem?_drop, show i / 3 * 3 + 1 = i by omega] at k3
    exact k3
  · obtain ⟨m', z, k1, k2⟩ := str_at Tryz.underlying108 h1 2 rfl 3 2 rfl rfl
    rw [cInt] at k1
    have k3 := int_at Tryz.underlying3 k1 (Option.some.inj k2).symm
    rw [← Array.getElem?_toList, hr, if_neg (by decide), if_neg (by decide)]
    rw [List.getElem?_take_of_lt (by omega), List.getElem?_drop, show i / 3 * 3 + 2 = i by omega] at k3
    exact k3
theorem pw_of_met {W : World} {r : List (String × DataW Unit)} (h : laidMet Tryz.prog (("internal/strconv.uint64pow10", Rows.laid_internal_strconv_uint64pow10) :: r) W) : Lib.TabIs Tryz.prog W "internal/strconv.uint64pow10" .u64 Lib.pow10Tab :=
  Lib.tabIs_of_head gPw tPw Tryz.underlying133 Tryz.underlying116 (by kernel_rfl) (by kernel_rfl) (show laidMet Tryz.prog ((_, Lib.tabData .u64 Lib.pow10Tab) :: r) W from h)
theorem tabs2_of_laid {W : World} (h : laidMetH Tryz.prog laidAll2 W) : Tabs2 W := by
  rw [MakeChecks.laidMetH_plain _ _ _ (by kernel_rfl)] at h
  have h3 := laidMet.tail (laidMet.tail h)
  have h4 := laidMet.tail h3
  exact ⟨tabs_of_met h4, mn_of_met (laidMet.tail (laidMet.tail h4)), pw_of_met h3⟩
theorem trodVars_len {H : Type} {enc : TypeId × Value → H} {P : Program} {w : World} {spare : Nat → Bool} : ∀ {ns : List String} {gs : List (DataW H)} {ps : List MemPlace}, DataW.TrodVars enc P w spare ns gs ps → gs.length = ns.length
  | [], [], _, _ => rfl
  | [], _ :: _, _, h => by simp [DataW.TrodVars] at h
  | _ :: _, [], _, h => by simp [DataW.TrodVars] at h
  | _ :: ns, _ :: gs, _, h => by
    obtain ⟨_, _, _, _, _, q, _, _, _, _, h, _⟩ := h
    simp [trodVars_len h]
theorem three_of {α : Type} {l : List α} (h : l.length = 3) : ∃ a b c, l = [a, b, c] := by
  match l, h with
  | [a, b, c], _ => exact ⟨a, b, c, rfl⟩
end Go.Proofs.YtecdmafhjfnloaaGreatDoor
