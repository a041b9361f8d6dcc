/- For every instruction (six ints), ItmAlone of the program returns what ItmAlone of the model returns (no condition; the two tables read as the program's text lays them, which the card ties). -/
import Derived.Test.YtiijhklkelaogabDoorCards
import Derived.Test.YtiijhklkelaogabDoorTie
import Derived.Test.YtiijhklkelaogabDoorLaid
import Derived.Test.YtiijhklkelaogabDoorI1
import Derived.WalkKit
import Derived.ProofKit
import Derived.OpenShut
import Derived.ShutString
import Derived.SliceStrings
import Derived.ChangeOld
import Derived.Below
import Derived.SevenTiedAt
namespace Go.Proofs.YtiijhklkelaogabDoor.fnExactItmAlone
open Go.ChangeShapes Go.WideShapes Go.ChangeAt Go.RowKit
set_option linter.unusedVariables false

theorem walk (k0 d0 a0 b0 f0 n0 : Int) (w : World) (ht : Tabs w) :
    Calls Tryd.prog 3 #[.agg #[.int .i64 k0, .int .i64 d0, .int .i64 a0, .int .i64 b0, .int .i64 f0, .int .i64 n0]] w fun e w' => e = .returned (.bool true) ∧ Below w.heap.size w w' := by
  have e0 := Lib.hid (sok_eq k0 d0 a0 b0 f0 n0)
  have F0 := Fr.alloc w (.cells #[.int .i64 k0, .int .i64 d0, .int .i64 a0, .int .i64 b0, .int .i64 f0, .int .i64 n0] 23)
  go_enter Tryd.func3, Tryd.ntmps3
  go_wp2_with fail
  refine (laws_toCodInst _ _ _ _ _ _ _).mono ?_
  rintro e u1 ⟨rfl, f1⟩
  go_wp2_with fail
  refine (spec_ItmAlone _ _ _ _ _ _ _).mono ?_
  rintro e u2 ⟨rfl, f2⟩
  have B2 := ((Box.new w k0 d0 a0 b0 f0 n0 _).fr f1).fr f2
  obtain ⟨c0, c1, c2, c3, c4, c5⟩ := B2
  have F2 := (F0.trans f1).trans f2
  rw [e0.out]
  go_wp2_with fail
  refine (laws_toCodInst _ _ _ _ _ _ _).mono ?_
  rintro e u3 ⟨rfl, f3⟩
  go_wp2_with fail
  refine (impl_ItmAlone _ _ _ _ _ _ _ (ht.fr (F2.trans f3))).mono ?_
  rintro e u4 ⟨rfl, f4⟩
  cases hq : (iok k0 d0 a0 b0 f0 n0 && aloneK k0)
  all_goals
    go_wp2
    go_ret
    exact ⟨rfl, (F2.trans f3).trans f4⟩

set_option maxRecDepth 100000 in
theorem lifted (os : Os) (started : os.Started) (H : Type) (enc : TypeId × Value → H) :
    ReturnsInHanded {} Tryd.checked os 3 .any (fun w args => (Rows.fnExactItmAloneSpec.pre enc Tryd.prog Tryd.f3 [] false w args ∧ laidMetH Tryd.prog laidAll w) ∧ sizedMet enc Tryd.prog Tryd.f3 (OpenSpec.ofChange Rows.fnExactItmAloneSpec) false w args)
      (Rows.fnExactItmAloneSpec.post enc Tryd.prog Tryd.f3 false true false false) := by
  refine returnsInHanded_of_change_and (C := Tryd.checked) (X := fun w _ => laidMetH Tryd.prog laidAll w) (fun _ _ _ hh h => h.of_heap hh) own started (by kernel_rfl) Tryd.func3
    (ChangeSpec.witness_shaped (enc := enc) (C := Tryd.checked) (os := os) (X := fun w _ => laidMetH Tryd.prog laidAll w) false (World.doorLaid Tryd.prog 400 os) #[.agg #[.int .i64 0, .int .i64 0, .int .i64 0, .int .i64 0, .int .i64 0, .int .i64 0]] 8 rfl (World.shaped_of_RefB (by kernel_rfl) (by kernel_rfl)) (by kernel_rfl) (by kernel_rfl) (by kernel_rfl) (door_met os _)) ?_
  intro W base args ds gs before hval0 hW _ _ hL _
  have hval : ∀ (j : Nat) t v, Tryd.f3.params[j]? = some t → args[j]? = some v → Value.okWide Tryd.prog W .any base t v := hval0
  have hW' := hW
  obtain ⟨p, q, hA0, hV0, rfl, hfz, hnd⟩ := hW
  have hA : DataW.TrodAll enc Tryd.prog W 0 (fun _ => true) true Tryd.f3.params.toList args.toList ds p := hA0
  have hV : DataW.TrodVars enc Tryd.prog W (fun _ => true) laidNames gs q := hV0
  rw [Tryd.params3] at hA hval
  obtain ⟨v0, vs0, d0, ds0, p0, q0, hargs, rfl, rfl, h0, r0⟩ := trodAll_cons hA
  obtain ⟨rfl, rfl, rfl⟩ := trodAll_nil r0
  obtain rfl : args = #[v0] := by cases args; simp_all
  have hV1 := hV
  obtain ⟨g0, t0, cs0, f0, e0, s0, g1, t1, cs1, f1, e1, s1, rfl, _⟩ := trodVars_two hV1
  have k0 := h0
  have lt0 : ∀ x ∈ p0, x.block < W.heap.size := by obtain ⟨m, hm⟩ := k0; exact DataW.trod_lt m _ _ _ hm
  obtain ⟨xk0, xd0, xa0, xb0, xf0, xn0, rfl⟩ := open_inst (by kernel_rfl) (by kernel_rfl) (hval 0 23 v0 rfl rfl) h0
  clear hA0 hval0 hV1
  refine (walk xk0 xd0 xa0 xb0 xf0 xn0 W (tabs_of_laid hL) ).mono fun e W' ⟨he, bel⟩ => ?_
  subst he
  exact ⟨_, rfl, _, _, _, [], _, _, hW', trodAll_mk1 (shut_bool Tryd.underlying4 _), (trodAll_cons_mk (Below.trod laidOut (by kernel_rfl) (of_decide_eq_true (by kernel_rfl)) k0 bel lt0) trodAll_mk0), bel.trodVars laidOut (by kernel_rfl) hV, bel.frame _, fun h => by cases h⟩

theorem over : Rows.fnExactItmAloneRow.holds Tryd.pinned (OpenSpec.ofChange Rows.fnExactItmAloneSpec) :=
  OpenClaim.holds_of_wide 3 Tryd.f3 rfl rfl rfl rfl rfl rfl rfl ⟨rfl, rfl, rfl, rfl, rfl⟩ rfl rfl rfl rfl rfl (by kernel_rfl) Tryd.func3 (by kernel_rfl)
    (of_decide_eq_true (by kernel_rfl)) (by unfold Func.isWrapper; first | (rw [if_pos (by decide +kernel)]; kernel_rfl) | (rw [if_neg (by decide +kernel)]; exact ⟨rfl, rfl⟩))
    (fun os started H enc _ => lifted os started H enc)

/-- THE STATEMENT: the tied card. -/
theorem proved : Rows.FnExactItmAloneCardSaid :=
  Claim7.holds_tied_plain_at .later [] [.wider, .data] true (true, "82e0a87d8479f61bb5d6e0e72efcbcf4808d780f78ab4507fc0af4420f50c1b5") false
    over (fun _ h => by cases h) (by kernel_rfl) (fun _ h => by cases h) fnExactItmAlone_row_tie rfl ⟨rfl, rfl⟩ (by kernel_rfl) rfl
    (fun f fn hf hfn => by
      obtain rfl : f = 3 := Option.some.inj ((show Tryd.prog.funcNamed "loop.example/harbinger/laws.FnExactItmAlone" = some 3 by kernel_rfl).symm.trans hf) |>.symm
      obtain rfl : fn = Tryd.f3 := (Option.some.inj (Tryd.func3.symm.trans hfn)).symm
      exact ⟨by kernel_rfl, fun j t ht => by
        rw [Tryd.params3] at ht
        have hm : t ∈ [23] := by simpa using Array.mem_of_getElem? ht
        have hall : ([23].all fun u => !Tryd.prog.wantsStandIn u) = true := by kernel_rfl
        exact (show Tryd.prog.wantsStandIn t = false by simpa using List.all_eq_true.1 hall t hm)⟩)
    (by kernel_rfl)
#print axioms proved
end Go.Proofs.YtiijhklkelaogabDoor.fnExactItmAlone
